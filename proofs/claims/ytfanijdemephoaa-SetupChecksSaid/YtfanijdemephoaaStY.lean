/- Layer 10: that what is standard may be; a configuration that came in, opened. -/
import Derived.Test.YtfanijdemephoaaStX
import Derived.Test.YtfanijdemephoaaFyD
import Derived.Test.YtfanijdemephoaaRows
import Derived.Test.YtfanijdemephoaaWdefs
import Derived.OpenShut
import Derived.Lib.Hide
import Derived.WalkKit
import Derived.WalkSpells
import Derived.WalkLawsBesides
import Derived.Handy
import Derived.Laws.Bits64b
import Derived.IntWalk
import Derived.BigQuiet
import Derived.Deep.QuietTactic
import Derived.Deep.DeepCutAuto
import Derived.Deep.RegionWith
import Derived.OneCell
import Derived.Lib.Zigzag
import Derived.ChangeArms
import Derived.ChangeOld
namespace Go.Proofs.Ytfanijdemephoaa.W
open Go.RowKit Go.Sort Go.ChangeShapes Go.WideShapes
set_option linter.unusedVariables false
set_option linter.unusedSimpArgs false
@[go_sem] theorem run_store_float (P : Program) (w : World) (a : Addr) (k : FloatKind) (b : Nat) (m : Mode) : (store a (.float k b) m).run P w = stored P w a (.float k b) m := run_store P w a _ m rfl
theorem std_typed : stdC.Typed := by
  refine ⟨?_, ?_, ?_, ?_, ?_, ?_, ?_, ⟨?_, ?_⟩, ⟨?_, ?_⟩, ⟨?_, ?_⟩, ⟨?_, ?_⟩, ⟨?_, ?_⟩⟩ <;> decide
theorem chk_std : chkN stdC = 0 ∧ chkE stdC = 0 ∧ (chkP stdC).step = 536870912 := by
  unfold chkN chkE chkP
  rw [std_none, if_pos rfl, if_pos rfl]
  have e1 : stdC.step = 4593671619917905920 := rfl
  have e2 : ∀ c : Cf, (setP c).step = ofV c.step := fun c => by
    unfold setP
    simp only []
  refine ⟨rfl, rfl, ?_⟩
  rw [e2, e1]
  exact num0125
set_option maxRecDepth 100000 in
set_option maxHeartbeats 3200000 in
theorem shown10_any (w : World) : Calls Try.prog 10 #[] w fun e w' => e = .returned (.bool true) ∧ Below w.heap.size w w' := by
  have c1 := gstd_any
  have c2 := gcheck_any stdC std_typed
  have c3 := gsname_any 1 (by decide) (by decide)
  obtain ⟨e1, e2, e3⟩ := chk_std
  rw [e1, e2] at c2
  rw [name_at.1] at c3
  unfold Pm.val at c2
  rw [e3] at c2
  generalize stdC.val = sv at *
  generalize chkP stdC = p at *
  clear e1 e2 e3
  go_enter Try.func10, Try.ntmps10
  go_wp2_with fail
  (with_reducible refine (c1 _).mono ?_)
  rintro e w1 ⟨rfl, hB1⟩
  go_wp2_with fail
  (with_reducible refine (c2 _).mono ?_)
  rintro e w2 ⟨rfl, hB2⟩
  have hB := hB1.trans (hB2.mono hB1.size)
  have hA := hB.alloc hB.size (.cells #[.int .i64 536870912, .int .i64 p.watch, .int .i64 p.panic, .int .i64 p.maxrate, .int .i64 p.phi, .int .i64 p.maxdist, .int .i64 p.gate, .int .i64 p.minpoll, .int .i64 p.maxpoll, .int .i64 p.burst, .int .i64 p.minsane, .int .i64 p.minleft] 26)
  clear hB hB1 hB2
  go_wp2_with fail
  (with_reducible refine (c3 _).mono ?_)
  rintro e w3 ⟨rfl, hB3⟩
  have hBf := hA.trans (hB3.mono hA.size)
  go_wp2_with fail
  go_ret
  exact ⟨rfl, hBf⟩
theorem trod_f64 {H : Type} {enc : TypeId × Value → H} {P : Program} {w : World} {base : Nat} {spare : Nat → Bool} {held : Bool} {fuel : Nat} {t : TypeId} {cs : List Value} {x : DataW H × List MemPlace} (ht : P.underlying t = some (.float .f64))
    (h : DataW.trod enc P w base spare held fuel t cs = some x) : ∃ b, cs = [.float .f64 b] ∧ (Lit.float .f64 b).wf = true := by
  cases fuel with
  | zero => simp [DataW.trod] at h
  | succ n =>
    unfold DataW.trod at h
    rw [ht] at h
    split at h <;> simp_all
theorem wf_f64 {b : Nat} (h : (Lit.float .f64 b).wf = true) : b < 18446744073709551616 := by
  simp [Lit.wf] at h
  exact h
theorem open_cf {H : Type} {enc : TypeId × Value → H} {w : World} {base : Nat} {spare : Nat → Bool} {held : Bool} {r : Reach} {b0 : Nat} {v : Value} {d : DataW H} {ps : List MemPlace}
    (hv : Value.okWide Try.prog w r b0 24 v) (h : DataW.Trod enc Try.prog w base spare held 24 v d ps) : ∃ c : Cf, v = c.val ∧ c.Typed := by
  obtain ⟨cs, rfl, hs⟩ := okWide_struct Try.underlying24 hv
  obtain ⟨fuel, hf⟩ := h
  have hs' : cs.size = 12 := hs.trans (by kernel_rfl)
  obtain ⟨l⟩ := cs
  match l, hs' with
  | [c0, c1, c2, c3, c4, c5, c6, c7, c8, c9, c10, c11], _ =>
    obtain ⟨xs, m, _, _, _, hlen, hfs⟩ := DataW.trod_struct Try.underlying24 hf
    match xs, hlen with
    | [y0, y1, y2, y3, y4, y5, y6, y7, y8, y9, y10, y11], _ =>
      have g0 := hfs 0 _ rfl
      have g1 := hfs 1 _ rfl
      have g2 := hfs 2 _ rfl
      have g3 := hfs 3 _ rfl
      have g4 := hfs 4 _ rfl
      have g5 := hfs 5 _ rfl
      have g6 := hfs 6 _ rfl
      have g7 := hfs 7 _ rfl
      have g8 := hfs 8 _ rfl
      have g9 := hfs 9 _ rfl
      have g10 := hfs 10 _ rfl
      have g11 := hfs 11 _ rfl
      obtain ⟨k0, e0, h0⟩ := trod_f64 Try.underlying22 (show DataW.trod _ Try.prog w base spare held m 22 [c0] = _ from g0)
      obtain ⟨k1, e1, h1⟩ := trod_f64 Try.underlying22 (show DataW.trod _ Try.prog w base spare held m 22 [c1] = _ from g1)
      obtain ⟨k2, e2, h2⟩ := trod_f64 Try.underlying22 (show DataW.trod _ Try.prog w base spare held m 22 [c2] = _ from g2)
      obtain ⟨k3, e3, h3⟩ := trod_f64 Try.underlying22 (show DataW.trod _ Try.prog w base spare held m 22 [c3] = _ from g3)
      obtain ⟨k4, e4, h4⟩ := trod_f64 Try.underlying22 (show DataW.trod _ Try.prog w base spare held m 22 [c4] = _ from g4)
      obtain ⟨k5, e5, h5⟩ := trod_f64 Try.underlying22 (show DataW.trod _ Try.prog w base spare held m 22 [c5] = _ from g5)
      obtain ⟨k6, e6, h6⟩ := trod_f64 Try.underlying22 (show DataW.trod _ Try.prog w base spare held m 22 [c6] = _ from g6)
      obtain ⟨k7, e7, _, h7⟩ := DataW.trod_int Try.underlying3 (show DataW.trod _ Try.prog w base spare held m 3 [c7] = _ from g7)
      obtain ⟨k8, e8, _, h8⟩ := DataW.trod_int Try.underlying3 (show DataW.trod _ Try.prog w base spare held m 3 [c8] = _ from g8)
      obtain ⟨k9, e9, _, h9⟩ := DataW.trod_int Try.underlying3 (show DataW.trod _ Try.prog w base spare held m 3 [c9] = _ from g9)
      obtain ⟨k10, e10, _, h10⟩ := DataW.trod_int Try.underlying3 (show DataW.trod _ Try.prog w base spare held m 3 [c10] = _ from g10)
      obtain ⟨k11, e11, _, h11⟩ := DataW.trod_int Try.underlying3 (show DataW.trod _ Try.prog w base spare held m 3 [c11] = _ from g11)
      simp only [List.cons.injEq, and_true] at e0 e1 e2 e3 e4 e5 e6 e7 e8 e9 e10 e11
      subst e0 e1 e2 e3 e4 e5 e6 e7 e8 e9 e10 e11
      have b0 := wf_f64 h0
      have b1 := wf_f64 h1
      have b2 := wf_f64 h2
      have b3 := wf_f64 h3
      have b4 := wf_f64 h4
      have b5 := wf_f64 h5
      have b6 := wf_f64 h6
      have b7 := bounds_i64 h7
      have b8 := bounds_i64 h8
      have b9 := bounds_i64 h9
      have b10 := bounds_i64 h10
      have b11 := bounds_i64 h11
      exact ⟨⟨k0, k1, k2, k3, k4, k5, k6, k7, k8, k9, k10, k11⟩, rfl, ⟨b0, b1, b2, b3, b4, b5, b6, (show -9223372036854775808 ≤ k7 ∧ k7 ≤ 9223372036854775807 by omega), (show -9223372036854775808 ≤ k8 ∧ k8 ≤ 9223372036854775807 by omega), (show -9223372036854775808 ≤ k9 ∧ k9 ≤ 9223372036854775807 by omega), (show -9223372036854775808 ≤ k10 ∧ k10 ≤ 9223372036854775807 by omega), (show -9223372036854775808 ≤ k11 ∧ k11 ≤ 9223372036854775807 by omega)⟩⟩
end Go.Proofs.Ytfanijdemephoaa.W
