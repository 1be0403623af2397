/- A slice of calls that came in as an argument, opened. -/
import Derived.Test.YtcnfidfpgohpoaaAgJ
import Derived.Lib.SmallJoins
import Derived.OpenShut
import Derived.ChangeOld
import Derived.Test.YtcnfidfpgohpoaaFixZ
import Derived.Test.YtcnfidfpgohpoaaHdI
namespace Go.Proofs.Ytcnfidfpgohpoaa.W
open Go.RowKit Go.ChangeShapes Go.WideShapes
set_option linter.unusedVariables false
set_option maxRecDepth 100000 in
theorem open_bcs {H : Type} {enc : TypeId × Value → H} {w : World} {base : Nat} {spare : Nat → Bool} {held : Bool} {fuel : Nat} {cs : List Value} {x : DataW H × List MemPlace}
    (h : DataW.trod enc Try.prog w base spare held fuel 22 cs = some x) :
    ∃ (v : Value) (l : List Bc), cs = [v] ∧ SlAt (fun b => b < w.heap.size) 5 bcE w v l ∧ (∀ f ∈ l, f.Typed) ∧ l.length ≤ maxLen := by
  refine open_sl Try.underlying22 5 (by kernel_rfl) (by decide) bcE bcE_length Bc.Typed ?_ h
  intro n cs' y hy hl
  obtain ⟨xs, m, _, _, _, hlen, hf⟩ := DataW.trod_struct Try.underlying33 hy
  match xs, hlen with
  | [y0, y1, y2, y3, y4], _ =>
    have g0 := hf 0 _ rfl
    have g1 := hf 1 _ rfl
    have g2 := hf 2 _ rfl
    have g3 := hf 3 _ rfl
    have g4 := hf 4 _ rfl
    match cs', hl with
    | [c0, c1, c2, c3, c4], _ =>
      obtain ⟨k0, e0, _, h0⟩ := DataW.trod_int Try.underlying3 (show DataW.trod _ Try.prog w base spare held m 3 [c0] = _ from g0)
      obtain ⟨k1, e1, _, h1⟩ := DataW.trod_int Try.underlying3 (show DataW.trod _ Try.prog w base spare held m 3 [c1] = _ from g1)
      obtain ⟨k2, e2, _, h2⟩ := DataW.trod_int Try.underlying3 (show DataW.trod _ Try.prog w base spare held m 3 [c2] = _ from g2)
      obtain ⟨k3, e3, _, h3⟩ := DataW.trod_int Try.underlying2 (show DataW.trod _ Try.prog w base spare held m 2 [c3] = _ from g3)
      obtain ⟨s4, e4, _, h4⟩ := DataW.trod_string Try.underlying9 (show DataW.trod _ Try.prog w base spare held m 9 [c4] = _ from g4)
      simp only [List.cons.injEq, and_true] at e0 e1 e2 e3 e4
      subst e0 e1 e2 e3 e4
      have b0 := bounds_i64 h0
      have b1 := bounds_i64 h1
      have b2 := bounds_i64 h2
      have b3 := bounds_i64 h3
      refine ⟨⟨k0, k1, k2, k3, s4.data.toList⟩, ?_, Bc.Typed.mk (show -9223372036854775808 ≤ k0 ∧ k0 ≤ 9223372036854775807 by omega) (show -9223372036854775808 ≤ k1 ∧ k1 ≤ 9223372036854775807 by omega) (show -9223372036854775808 ≤ k2 ∧ k2 ≤ 9223372036854775807 by omega) (show -9223372036854775808 ≤ k3 ∧ k3 ≤ 9223372036854775807 by omega) ?_⟩
      · show _ = [Value.int .i64 k0, .int .i64 k1, .int .i64 k2, .int .i64 k3, .string (bs s4.data.toList)]
        rw [bs_data]
      · show s4.data.toList.length ≤ maxLen
        have : s4.data.toList.length = s4.size := by rw [← bs_size, bs_data]
        rw [this]
        exact h4
end Go.Proofs.Ytcnfidfpgohpoaa.W
