/- FixShares: for every int32 and every uint32, what is divided by one more than the second one, times that divisor again, is not above, and at most one more than the divisor's seconds away; a number by one second is itself. No condition. -/
import Derived.Test.YtlnoclffgmcgoaaFixZ
import Derived.WalkKit
import Derived.WalkSpells
import Derived.WalkLawsBesides
import Derived.Lib.Hide
import Derived.Handy
import Derived.ProofKit
import Derived.OpenShut
import Derived.ShutString
import Derived.ChangeOld
import Derived.Below
namespace Go.Proofs.Ytlnoclffgmcgoaa.FixShares
open Go.Proofs.Ytlnoclffgmcgoaa.W
open Go.ChangeShapes Go.WideShapes Go.ChangeAt Go.RowKit
open Go.ChangeMaps (open_string shut_string)
set_option linter.unusedVariables false
theorem own : ownKnob Try.prog.godebug = none := by kernel_rfl
theorem laidOut : laidOutB Try.prog = true := by kernel_rfl
set_option linter.unusedSimpArgs false
theorem share_back (a d : Int) (ha : -2147483648 ≤ a) (ha' : a ≤ 2147483647) (hd : 0 < d) (hd' : d ≤ 4294967296) : mulI (divI a d) d ≤ a ∧ a - mulI (divI a d) d ≤ d / 4294967296 + 1 := by
  have hv : divI a d = cutI (a * 4294967296 / d) := by unfold divI; rw [if_neg (by omega), if_pos hd]
  rw [hv]
  have e := Int.mul_ediv_add_emod (a * 4294967296) d
  have r0 := Int.emod_nonneg (a * 4294967296) (show d ≠ 0 by omega)
  have r1 := Int.emod_lt_of_pos (a * 4294967296) hd
  rw [Int.mul_comm] at e
  by_cases hq : a * 4294967296 / d < -9223372036854775807
  · have h1 : d = 1 := by
      apply Int.le_antisymm _ (by omega)
      apply Int.le_of_not_gt
      intro h2
      have : a * 4294967296 / d < -9223372036854775807 := hq
      have h3 : -4611686018427387904 ≤ a * 4294967296 / d := by
        rw [Int.le_ediv_iff_mul_le hd]
        have : -4611686018427387904 * d ≤ -4611686018427387904 * 2 := by omega
        omega
      omega
    subst h1
    have h2 : a * 4294967296 / 1 = a * 4294967296 := Int.ediv_one _
    rw [h2] at hq
    have : a = -2147483648 := by omega
    subst this
    decide
  · have hq2 : a * 4294967296 / d ≤ 9223372036854775807 := by
      apply Int.le_of_lt_add_one
      apply Int.ediv_lt_of_lt_mul hd
      omega
    rw [cutI_in _ (by omega) hq2]
    generalize a * 4294967296 / d = q at *
    generalize a * 4294967296 % d = r at *
    have h3 : q * d = a * 4294967296 - r := by omega
    unfold mulI
    rw [h3, cutI_in _ (by omega) (by omega)]
    omega
set_option maxHeartbeats 3200000 in
theorem walk (a0 a1 : Int) (w : World) (w0 : (Lit.int .i32 a0).wf = true) (w1 : (Lit.int .u32 a1).wf = true) :
    Calls Try.prog 11 #[.int .i32 a0, .int .u32 a1] w fun e w' => e = .returned (.bool true) ∧ Below w.heap.size w w' := by
  have p := bounds_i32 w0
  have q := bounds_u32 w1
  clear w0 w1
  obtain ⟨p0, p1⟩ : -2147483648 ≤ a0 ∧ a0 ≤ 2147483647 := by omega
  obtain ⟨q0, q1⟩ : 0 ≤ a1 ∧ a1 < 4294967296 := by omega
  obtain ⟨s1, s2⟩ := share_back a0 (a1 + 1) p0 p1 (by omega) (by omega)
  obtain ⟨d0, d1⟩ := divI_range a0 (a1 + 1)
  obtain ⟨m0, m1⟩ := mulI_range (divI a0 (a1 + 1)) (a1 + 1)
  have c1 := fdiv_any a0 (a1 + 1) (by omega) (by omega) (by omega) (by omega)
  have c2 := fmul_any (divI a0 (a1 + 1)) (a1 + 1) (by omega) (by omega) (by omega) (by omega)
  have c3 := fdiv_any a0 4294967296 (by omega) (by omega) (by decide) (by decide)
  rw [show divI a0 4294967296 = a0 by unfold divI; rw [if_neg (by decide), if_pos (by decide), Int.mul_ediv_cancel _ (by decide), cutI_in _ (by omega) (by omega)]] at c3
  generalize mulI (divI a0 (a1 + 1)) (a1 + 1) = y at *
  generalize divI a0 (a1 + 1) = x at *
  clear p q
  go_enter Try.func11, Try.ntmps11
  go_wp2_with fail
  (with_reducible refine (c1 _).mono ?_)
  rintro e w1 ⟨rfl, hb⟩
  have hB := hb
  clear hb
  go_wp2_with fail
  (with_reducible refine (c2 _).mono ?_)
  rintro e w2 ⟨rfl, hb⟩
  replace hB := hB.trans (hb.mono hB.size)
  clear hb
  go_wp2_with fail
  (with_reducible refine (c3 _).mono ?_)
  rintro e w3 ⟨rfl, hb⟩
  replace hB := hB.trans (hb.mono hB.size)
  clear hb
  go_wp2_with fail
  (with_reducible refine (fshown_any _).mono ?_)
  rintro e w4 ⟨rfl, hb⟩
  replace hB := hB.trans (hb.mono hB.size)
  clear hb
  go_wp2_with fail
  go_ret
  exact ⟨rfl, hB⟩
set_option maxRecDepth 100000 in
theorem lifted (os : Os) (started : os.Started) (H : Type) (enc : TypeId × Value → H) :
    ReturnsInHanded {} Try.checked os 11 .any (Rows.fixSharesSpec.pre6 enc Try.prog Try.f11 Rows.fixSharesRow.domain false) (Rows.fixSharesSpec.post enc Try.prog Try.f11 false true false false) := by
  refine returnsInHanded_of_change (C := Try.checked) own started (by kernel_rfl) Try.func11
    (ChangeSpec.witness6 (enc := enc) (C := Try.checked) false ⟨#[], #[.int .i32 0, .int .u32 0], []⟩ 8 (by kernel_rfl) (by kernel_rfl) (by kernel_rfl) (by kernel_rfl)) ?_
  intro W base args ds gs before hval0 hW hcnd _
  have hval : ∀ (j : Nat) t v, Try.f11.params[j]? = some t → args[j]? = some v → Value.okWide Try.prog W .any base t v := hval0
  have hW' := hW
  obtain ⟨p, q, hA0, hV, rfl, hfz, hnd⟩ := hW
  have hA : DataW.TrodAll enc Try.prog W 0 (fun _ => true) true Try.f11.params.toList args.toList ds p := hA0
  rw [Try.params11] at hA hval
  obtain ⟨v0, vs0, d0, ds0, p0, q0, hargs, rfl, rfl, h0, r0⟩ := trodAll_cons hA
  obtain ⟨v1, vs1, d1, ds1, p1, q1, rfl, rfl, rfl, h1, r1⟩ := trodAll_cons r0
  obtain ⟨rfl, rfl, rfl⟩ := trodAll_nil r1
  obtain rfl : args = #[v0, v1] := by cases args; simp_all
  obtain ⟨rfl, rfl⟩ := trodVars_none hV
  obtain ⟨a0, rfl, rfl, rfl, w0⟩ := open_int Try.underlying21 (hval 0 21 v0 rfl rfl) h0
  obtain ⟨a1, rfl, rfl, rfl, w1⟩ := open_int Try.underlying38 (hval 1 38 v1 rfl rfl) h1
  clear hA0 hval0
  refine (walk a0 a1 W w0 w1).mono fun e W' ⟨he, bel⟩ => ?_
  subst he
  exact ⟨_, rfl, _, _, _, [], _, [], hW', trodAll_mk1 (shut_bool Try.underlying4 _), (trodAll_cons_mk (shut_int Try.underlying21 w0) (trodAll_cons_mk (shut_int Try.underlying38 w1) trodAll_mk0)), rfl, bel.frame _, fun h => by cases h⟩

theorem over : Rows.fixSharesRow.holds Try.pinned (OpenSpec.ofChange Rows.fixSharesSpec) :=
  OpenClaim.holds_of_wide 11 Try.f11 rfl rfl rfl rfl rfl rfl rfl ⟨rfl, rfl, rfl, rfl, rfl⟩ rfl rfl rfl rfl rfl (by kernel_rfl) Try.func11 (by kernel_rfl)
    (of_decide_eq_true (by kernel_rfl)) (by unfold Func.isWrapper; first | (rw [if_pos (by decide +kernel)]; kernel_rfl) | (rw [if_neg (by decide +kernel)]; exact ⟨rfl, rfl⟩))
    (fun os started H enc _ => lifted os started H enc)

theorem proved : Rows.FixSharesSaid := over
end Go.Proofs.Ytlnoclffgmcgoaa.FixShares
