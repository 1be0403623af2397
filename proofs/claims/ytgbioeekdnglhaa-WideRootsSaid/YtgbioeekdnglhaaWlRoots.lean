/- WideRoots: for every number of 128 bits, the square of its root is not above it, and the square of the next number is, where there is one. No condition. -/
import Derived.Test.YtgbioeekdnglhaaWideZ
import Derived.WalkKit
import Derived.WalkSpells
import Derived.WalkLawsBesides
import Derived.Lib.Hide
import Derived.Handy
import Derived.ProofKit
import Derived.OpenShut
import Derived.ShutString
import Derived.ChangeOld
import Derived.Below
namespace Go.Proofs.Ytgbioeekdnglhaa.WideRoots
open Go.Proofs.Ytgbioeekdnglhaa.W
open Go.ChangeShapes Go.WideShapes Go.ChangeAt Go.RowKit
open Go.ChangeMaps (open_string shut_string)
set_option linter.unusedVariables false
theorem own : ownKnob Try.prog.godebug = none := by kernel_rfl
theorem laidOut : laidOutB Try.prog = true := by kernel_rfl
set_option maxHeartbeats 400000 in
theorem walk (a0 a1 : Int) (w : World) (w0 : (Lit.int .u64 a0).wf = true) (w1 : (Lit.int .u64 a1).wf = true) :
    Calls Try.prog 5 #[.int .u64 a0, .int .u64 a1] w fun e w' => e = .returned (.bool true) ∧ Below w.heap.size w w' := by
  obtain ⟨p0, p1⟩ := u64_bounds w0
  obtain ⟨q0, q1⟩ := u64_bounds w1
  clear w0 w1
  have s0 := sqrtI_nonneg a0 a1
  have s1 := sqrtI_lt a0 a1 p0 p1 q0 q1
  have l1 := less_sq a0 a1 (sqrtI a0 a1) p0 q0 q1 s0
  have l2 := less_sq a0 a1 (sqrtI a0 a1 + 1) p0 q0 q1 (by omega)
  rw [show decide (sqrtI a0 a1 < sqrtI a0 a1) = false from by simp] at l1
  rw [show decide (sqrtI a0 a1 < sqrtI a0 a1 + 1) = true from by simp; omega] at l2
  obtain ⟨n, hn⟩ : ∃ n, sqrtI a0 a1 = n := ⟨_, rfl⟩
  rw [hn] at s0 s1 l1 l2
  have HN := Lib.hid hn
  have L1 := Lib.hid l1
  have L2 := Lib.hid l2
  clear hn l1 l2
  go_enter Try.func5, Try.ntmps5
  go_wp2_with fail
  refine (sqrt_any a0 a1 p0 p1 q0 q1 _).mono ?_
  rintro e w1 ⟨rfl, hb1⟩
  rw [HN.out]
  go_wp2_with fail
  refine (mul_any n n s0 s1 s0 s1 _).mono ?_
  rintro e w2 ⟨rfl, hb2⟩
  have hB := hb1.trans (hb2.mono hb1.size)
  have z := hB.size
  clear hb1 hb2
  go_wp2_with fail
  refine (less_val _ _ _ _ _ L1.out _).mono ?_
  rintro e w3 ⟨rfl, rfl⟩
  go_wp2_with fail
  refine (shown_any _).mono ?_
  rintro e w4 ⟨rfl, hb3⟩
  have hB := hB.trans (hb3.mono z)
  have z := hB.size
  clear hb3
  by_cases hmax : n = 18446744073709551615
  · have hm : (n == 18446744073709551615) = true := by simp [hmax]
    clear hmax
    go_wp2_with fail
    go_ret
    exact ⟨rfl, hB⟩
  · have hm : (n == 18446744073709551615) = false := by simp [hmax]
    have s2 : 0 ≤ n + 1 := by omega
    have s3 : n + 1 < 18446744073709551616 := by omega
    clear hmax
    go_wp2_with fail
    refine (mul_any (n + 1) (n + 1) s2 s3 s2 s3 _).mono ?_
    rintro e w5 ⟨rfl, hb4⟩
    have hB := hB.trans (hb4.mono z)
    clear hb4
    go_wp2_with fail
    refine (less_val _ _ _ _ _ L2.out _).mono ?_
    rintro e w6 ⟨rfl, rfl⟩
    go_wp2_with fail
    go_ret
    exact ⟨rfl, hB⟩
set_option maxRecDepth 100000 in
theorem lifted (os : Os) (started : os.Started) (H : Type) (enc : TypeId × Value → H) :
    ReturnsInHanded {} Try.checked os 5 .any (Rows.wideRootsSpec.pre6 enc Try.prog Try.f5 Rows.wideRootsRow.domain false) (Rows.wideRootsSpec.post enc Try.prog Try.f5 false true false false) := by
  refine returnsInHanded_of_change (C := Try.checked) own started (by kernel_rfl) Try.func5
    (ChangeSpec.witness6 (enc := enc) (C := Try.checked) false ⟨#[], #[.int .u64 0, .int .u64 0], []⟩ 8 (by kernel_rfl) (by kernel_rfl) (by kernel_rfl) (by kernel_rfl)) ?_
  intro W base args ds gs before hval0 hW hcnd _
  have hval : ∀ (j : Nat) t v, Try.f5.params[j]? = some t → args[j]? = some v → Value.okWide Try.prog W .any base t v := hval0
  have hW' := hW
  obtain ⟨p, q, hA0, hV, rfl, hfz, hnd⟩ := hW
  have hA : DataW.TrodAll enc Try.prog W 0 (fun _ => true) true Try.f5.params.toList args.toList ds p := hA0
  rw [Try.params5] at hA hval
  obtain ⟨v0, vs0, d0, ds0, p0, q0, hargs, rfl, rfl, h0, r0⟩ := trodAll_cons hA
  obtain ⟨v1, vs1, d1, ds1, p1, q1, rfl, rfl, rfl, h1, r1⟩ := trodAll_cons r0
  obtain ⟨rfl, rfl, rfl⟩ := trodAll_nil r1
  obtain rfl : args = #[v0, v1] := by cases args; simp_all
  obtain ⟨rfl, rfl⟩ := trodVars_none hV
  obtain ⟨a0, rfl, rfl, rfl, w0⟩ := open_int Try.underlying22 (hval 0 22 v0 rfl rfl) h0
  obtain ⟨a1, rfl, rfl, rfl, w1⟩ := open_int Try.underlying22 (hval 1 22 v1 rfl rfl) h1
  clear hA0 hval0
  refine (walk a0 a1 W w0 w1).mono fun e W' ⟨he, bel⟩ => ?_
  subst he
  exact ⟨_, rfl, _, _, _, [], _, [], hW', trodAll_mk1 (shut_bool Try.underlying4 _), (trodAll_cons_mk (shut_int Try.underlying22 w0) (trodAll_cons_mk (shut_int Try.underlying22 w1) trodAll_mk0)), rfl, bel.frame _, fun h => by cases h⟩

theorem over : Rows.wideRootsRow.holds Try.pinned (OpenSpec.ofChange Rows.wideRootsSpec) :=
  OpenClaim.holds_of_wide 5 Try.f5 rfl rfl rfl rfl rfl rfl rfl ⟨rfl, rfl, rfl, rfl, rfl⟩ rfl rfl rfl rfl rfl (by kernel_rfl) Try.func5 (by kernel_rfl)
    (of_decide_eq_true (by kernel_rfl)) (by unfold Func.isWrapper; first | (rw [if_pos (by decide +kernel)]; kernel_rfl) | (rw [if_neg (by decide +kernel)]; exact ⟨rfl, rfl⟩))
    (fun os started H enc _ => lifted os started H enc)

theorem proved : Rows.WideRootsSaid := over
end Go.Proofs.Ytgbioeekdnglhaa.WideRoots
