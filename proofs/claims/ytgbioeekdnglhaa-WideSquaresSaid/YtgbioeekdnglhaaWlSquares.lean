/- WideSquares: for every two numbers of 64 bits, their product is the same in either order, and the root of the square of the first one is that number. No condition. -/
import Derived.Test.YtgbioeekdnglhaaWideZ
import Derived.WalkKit
import Derived.WalkSpells
import Derived.WalkLawsBesides
import Derived.Lib.Hide
import Derived.Handy
import Derived.ProofKit
import Derived.OpenShut
import Derived.ShutString
import Derived.ChangeOld
import Derived.Below
namespace Go.Proofs.Ytgbioeekdnglhaa.WideSquares
open Go.Proofs.Ytgbioeekdnglhaa.W
open Go.ChangeShapes Go.WideShapes Go.ChangeAt Go.RowKit
open Go.ChangeMaps (open_string shut_string)
set_option linter.unusedVariables false
theorem own : ownKnob Try.prog.godebug = none := by kernel_rfl
theorem laidOut : laidOutB Try.prog = true := by kernel_rfl
theorem mulH_comm (a b : Int) : mulH b a = mulH a b := by unfold mulH; rw [Int.mul_comm]
theorem mulL_comm (a b : Int) : mulL b a = mulL a b := by unfold mulL; rw [Int.mul_comm]
theorem sqrt_sq (a : Int) (h0 : 0 ≤ a) : sqrtI (mulH a a) (mulL a a) = a := by
  have e : 0 ≤ a * a := Int.mul_nonneg h0 h0
  exact (sq_exact (mulH a a) (mulL a a) a (by unfold mulH; omega) (by unfold mulL; omega) h0 rfl rfl).symm
set_option maxHeartbeats 400000 in
theorem walk (a0 a1 : Int) (w : World) (w0 : (Lit.int .u64 a0).wf = true) (w1 : (Lit.int .u64 a1).wf = true) :
    Calls Try.prog 7 #[.int .u64 a0, .int .u64 a1] w fun e w' => e = .returned (.bool true) ∧ Below w.heap.size w w' := by
  obtain ⟨p0, p1⟩ := u64_bounds w0
  obtain ⟨q0, q1⟩ := u64_bounds w1
  clear w0 w1
  obtain ⟨r1, r2, r3, r4⟩ := mul_range a0 a0 p0 p1 p0 p1
  go_enter Try.func7, Try.ntmps7
  go_wp2_with fail
  refine (mul_any a0 a1 p0 p1 q0 q1 _).mono ?_
  rintro e w1 ⟨rfl, hb1⟩
  go_wp2_with fail
  refine (mul_any a1 a0 q0 q1 p0 p1 _).mono ?_
  rintro e w2 ⟨rfl, hb2⟩
  rw [mulH_comm, mulL_comm]
  go_wp2_with fail
  refine (mul_any a0 a0 p0 p1 p0 p1 _).mono ?_
  rintro e w3 ⟨rfl, hb3⟩
  have hB := (hb1.trans (hb2.mono hb1.size)).trans (hb3.mono (Nat.le_trans hb1.size hb2.size))
  have z := hB.size
  clear hb1 hb2 hb3
  go_wp2_with fail
  refine (sqrt_any _ _ r1 r2 r3 r4 _).mono ?_
  rintro e w4 ⟨rfl, hb4⟩
  rw [sqrt_sq a0 p0]
  have hB := hB.trans (hb4.mono z)
  have z := hB.size
  clear hb4
  go_wp2_with fail
  refine (shown_any _).mono ?_
  rintro e w5 ⟨rfl, hb5⟩
  go_wp2_with fail
  go_ret
  exact ⟨rfl, hB.trans (hb5.mono z)⟩
set_option maxRecDepth 100000 in
theorem lifted (os : Os) (started : os.Started) (H : Type) (enc : TypeId × Value → H) :
    ReturnsInHanded {} Try.checked os 7 .any (Rows.wideSquaresSpec.pre6 enc Try.prog Try.f7 Rows.wideSquaresRow.domain false) (Rows.wideSquaresSpec.post enc Try.prog Try.f7 false true false false) := by
  refine returnsInHanded_of_change (C := Try.checked) own started (by kernel_rfl) Try.func7
    (ChangeSpec.witness6 (enc := enc) (C := Try.checked) false ⟨#[], #[.int .u64 0, .int .u64 0], []⟩ 8 (by kernel_rfl) (by kernel_rfl) (by kernel_rfl) (by kernel_rfl)) ?_
  intro W base args ds gs before hval0 hW hcnd _
  have hval : ∀ (j : Nat) t v, Try.f7.params[j]? = some t → args[j]? = some v → Value.okWide Try.prog W .any base t v := hval0
  have hW' := hW
  obtain ⟨p, q, hA0, hV, rfl, hfz, hnd⟩ := hW
  have hA : DataW.TrodAll enc Try.prog W 0 (fun _ => true) true Try.f7.params.toList args.toList ds p := hA0
  rw [Try.params7] at hA hval
  obtain ⟨v0, vs0, d0, ds0, p0, q0, hargs, rfl, rfl, h0, r0⟩ := trodAll_cons hA
  obtain ⟨v1, vs1, d1, ds1, p1, q1, rfl, rfl, rfl, h1, r1⟩ := trodAll_cons r0
  obtain ⟨rfl, rfl, rfl⟩ := trodAll_nil r1
  obtain rfl : args = #[v0, v1] := by cases args; simp_all
  obtain ⟨rfl, rfl⟩ := trodVars_none hV
  obtain ⟨a0, rfl, rfl, rfl, w0⟩ := open_int Try.underlying22 (hval 0 22 v0 rfl rfl) h0
  obtain ⟨a1, rfl, rfl, rfl, w1⟩ := open_int Try.underlying22 (hval 1 22 v1 rfl rfl) h1
  clear hA0 hval0
  refine (walk a0 a1 W w0 w1).mono fun e W' ⟨he, bel⟩ => ?_
  subst he
  exact ⟨_, rfl, _, _, _, [], _, [], hW', trodAll_mk1 (shut_bool Try.underlying4 _), (trodAll_cons_mk (shut_int Try.underlying22 w0) (trodAll_cons_mk (shut_int Try.underlying22 w1) trodAll_mk0)), rfl, bel.frame _, fun h => by cases h⟩

theorem over : Rows.wideSquaresRow.holds Try.pinned (OpenSpec.ofChange Rows.wideSquaresSpec) :=
  OpenClaim.holds_of_wide 7 Try.f7 rfl rfl rfl rfl rfl rfl rfl ⟨rfl, rfl, rfl, rfl, rfl⟩ rfl rfl rfl rfl rfl (by kernel_rfl) Try.func7 (by kernel_rfl)
    (of_decide_eq_true (by kernel_rfl)) (by unfold Func.isWrapper; first | (rw [if_pos (by decide +kernel)]; kernel_rfl) | (rw [if_neg (by decide +kernel)]; exact ⟨rfl, rfl⟩))
    (fun os started H enc _ => lifted os started H enc)

theorem proved : Rows.WideSquaresSaid := over
end Go.Proofs.Ytgbioeekdnglhaa.WideSquares
