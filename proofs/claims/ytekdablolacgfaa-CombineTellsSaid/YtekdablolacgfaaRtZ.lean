/- Layer 15: a server that came in, opened. (Written by wip/genRtZ.py.) -/
import Derived.Test.YtekdablolacgfaaRtA
import Derived.Test.YtekdablolacgfaaSlA
import Derived.Test.YtekdablolacgfaaChecked
import Derived.ChangeArms
import Derived.OpenShut
import Derived.ChangeOld
import Derived.ShutString
import Derived.WideShapes
namespace Go.Proofs.Ytekdablolacgfaa.W
open Go.RowKit Go.Sort Go.ChangeShapes Go.WideShapes Go.ChangeMaps
set_option linter.unusedVariables false
theorem svC_len (s : Sv) : (svC s).length = 11 := rfl
set_option maxRecDepth 100000 in
theorem open_srvs {H : Type} {enc : TypeId × Value → H} {w : World} {base : Nat} {spare : Nat → Bool} {held : Bool} {fuel : Nat} {cs : List Value} {x : DataW H × List MemPlace}
    (h : DataW.trod enc Try.prog w base spare held fuel 32 cs = some x) :
    ∃ (v : Value) (l : List Sv), cs = [v] ∧ SlAt (fun b => b < w.heap.size) 11 svC w v l ∧ (∀ f ∈ l, f.Typed) ∧ l.length ≤ maxLen := by
  refine open_sl Try.underlying32 11 (by kernel_rfl) (by decide) svC svC_len Sv.Typed ?_ h
  intro n cs' y hy hl
  obtain ⟨xs, m, _, _, _, hlen, hfs⟩ := DataW.trod_struct Try.underlying57 hy
  match cs', hl with
  | [c0, c1, c2, c3, c4, c5, c6, c7, c8, c9, c10], _ =>
    match xs, hlen with
    | [y0, y1, y2, y3, y4, y5, y6], _ =>
      have g0 := hfs 0 _ rfl
      have g1 := hfs 1 _ rfl
      have g2 := hfs 2 _ rfl
      have g3 := hfs 3 _ rfl
      have g4 := hfs 4 _ rfl
      have g5 := hfs 5 _ rfl
      have g6 := hfs 6 _ rfl
      obtain ⟨k0, e0, _, h0⟩ := DataW.trod_int Try.underlying3 (show DataW.trod _ Try.prog w base spare held m 3 [c0] = _ from g0)
      obtain ⟨k1, e1, _, h1⟩ := DataW.trod_int Try.underlying3 (show DataW.trod _ Try.prog w base spare held m 3 [c1] = _ from g1)
      obtain ⟨k2, e2, _, h2⟩ := DataW.trod_int Try.underlying37 (show DataW.trod _ Try.prog w base spare held m 37 [c2] = _ from g2)
      obtain ⟨k3, e3, _, h3⟩ := DataW.trod_int Try.underlying2 (show DataW.trod _ Try.prog w base spare held m 2 [c3] = _ from g3)
      obtain ⟨k4, e4, _, h4⟩ := DataW.trod_int Try.underlying2 (show DataW.trod _ Try.prog w base spare held m 2 [c4] = _ from g4)
      obtain ⟨k6, e6, _, h6⟩ := DataW.trod_int Try.underlying5 (show DataW.trod _ Try.prog w base spare held m 5 [c10] = _ from g6)
      obtain ⟨xt, mt, _, _, _, hlent, hft⟩ := DataW.trod_struct Try.underlying55 (show DataW.trod _ Try.prog w base spare held m 55 [c5, c6, c7, c8, c9] = _ from g5)
      match xt, hlent with
      | [z0, z1, z2, z3, z4], _ =>
        have q0 := hft 0 _ rfl
        have q1 := hft 1 _ rfl
        have q2 := hft 2 _ rfl
        have q3 := hft 3 _ rfl
        have q4 := hft 4 _ rfl
        obtain ⟨t0, f0, _, j0⟩ := DataW.trod_int Try.underlying2 (show DataW.trod _ Try.prog w base spare held mt 2 [c5] = _ from q0)
        obtain ⟨t1, f1, _, j1⟩ := DataW.trod_int Try.underlying2 (show DataW.trod _ Try.prog w base spare held mt 2 [c6] = _ from q1)
        obtain ⟨t2, f2, _, j2⟩ := DataW.trod_int Try.underlying2 (show DataW.trod _ Try.prog w base spare held mt 2 [c7] = _ from q2)
        obtain ⟨t3, f3, _, j3⟩ := DataW.trod_int Try.underlying2 (show DataW.trod _ Try.prog w base spare held mt 2 [c8] = _ from q3)
        obtain ⟨t4, f4, _, j4⟩ := DataW.trod_int Try.underlying2 (show DataW.trod _ Try.prog w base spare held mt 2 [c9] = _ from q4)
        simp only [List.cons.injEq, and_true] at e0 e1 e2 e3 e4 e6 f0 f1 f2 f3 f4
        subst e0 e1 e2 e3 e4 e6 f0 f1 f2 f3 f4
        have b0 := bounds_i64 h0
        have b1 := bounds_i64 h1
        have b2 := bounds_u32 h2
        have b3 := bounds_i64 h3
        have b4 := bounds_i64 h4
        have b6 := bounds_u8 h6
        have d0 := bounds_i64 j0
        have d1 := bounds_i64 j1
        have d2 := bounds_i64 j2
        have d3 := bounds_i64 j3
        have d4 := bounds_i64 j4
        exact ⟨⟨k0, k1, k2, k3, k4, ⟨t0, t1, t2, t3, t4⟩, k6⟩, rfl, ⟨(show -9223372036854775808 ≤ k0 ∧ k0 ≤ 9223372036854775807 by omega), (show -9223372036854775808 ≤ k1 ∧ k1 ≤ 9223372036854775807 by omega), (show 0 ≤ k2 ∧ k2 ≤ 4294967295 by omega), (show -9223372036854775808 ≤ k3 ∧ k3 ≤ 9223372036854775807 by omega), (show -9223372036854775808 ≤ k4 ∧ k4 ≤ 9223372036854775807 by omega), ⟨(show -9223372036854775808 ≤ t0 ∧ t0 ≤ 9223372036854775807 by omega), (show -9223372036854775808 ≤ t1 ∧ t1 ≤ 9223372036854775807 by omega), (show -9223372036854775808 ≤ t2 ∧ t2 ≤ 9223372036854775807 by omega), (show -9223372036854775808 ≤ t3 ∧ t3 ≤ 9223372036854775807 by omega), (show -9223372036854775808 ≤ t4 ∧ t4 ≤ 9223372036854775807 by omega)⟩, (show 0 ≤ k6 ∧ k6 ≤ 255 by omega)⟩⟩
end Go.Proofs.Ytekdablolacgfaa.W
