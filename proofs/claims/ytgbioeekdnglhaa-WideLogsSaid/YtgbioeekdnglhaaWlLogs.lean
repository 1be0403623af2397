/- WideLogs: for every number of 64 bits, the number is at least the power of two of its logarithm and below the next one; nought has the logarithm -1; and a power of two has its exponent. No condition. -/
import Derived.Test.YtgbioeekdnglhaaWideZ
import Derived.WalkKit
import Derived.WalkSpells
import Derived.WalkLawsBesides
import Derived.Lib.Hide
import Derived.Handy
import Derived.ProofKit
import Derived.OpenShut
import Derived.ShutString
import Derived.ChangeOld
import Derived.Below
namespace Go.Proofs.Ytgbioeekdnglhaa.WideLogs
open Go.Proofs.Ytgbioeekdnglhaa.W
open Go.ChangeShapes Go.WideShapes Go.ChangeAt Go.RowKit
open Go.ChangeMaps (open_string shut_string)
set_option linter.unusedVariables false
theorem own : ownKnob Try.prog.godebug = none := by kernel_rfl
theorem laidOut : laidOutB Try.prog = true := by kernel_rfl
set_option maxHeartbeats 400000 in
theorem walk (a0 a1 : Int) (w : World) (w0 : (Lit.int .u64 a0).wf = true) (w1 : (Lit.int .u8 a1).wf = true) :
    Calls Try.prog 10 #[.int .u64 a0, .int .u8 a1] w fun e w' => e = .returned (.bool true) ∧ Below w.heap.size w w' := by
  obtain ⟨p0, p1⟩ := u64_bounds w0
  obtain ⟨q0, q1⟩ := bounds_u8 w1
  clear w0 w1
  by_cases h : a0 = 0
  · subst h
    have l := logI_zero 0 (by omega)
    have L := Lib.hid l
    clear l
    go_enter Try.func10, Try.ntmps10
    go_wp2_with fail
    refine (log_any 0 p0 p1 _).mono ?_
    rintro e w1 ⟨rfl, rfl⟩
    rw [L.out]
    go_wp2_with fail
    refine (shown_any _).mono ?_
    rintro e w2 ⟨rfl, hB⟩
    go_wp2_with fail
    go_ret
    exact ⟨rfl, hB⟩
  · have hz : (a0 == 0) = false := by simp [h]
    obtain ⟨k, hk, h1, h2⟩ := logI_low a0 (by omega)
    have HK := Lib.hid hk
    have hk63 : k ≤ 63 := by
      apply Nat.le_of_not_lt
      intro h64
      have : (2 : Int) ^ 64 ≤ 2 ^ k := by rw [pow_cast, pow_cast]; exact_mod_cast Nat.pow_le_pow_right (by decide) h64
      simp at this; omega
    have hone : (a0 / 2 ^ k == 1) = true := by
      have e : a0 / 2 ^ k = 1 := by
        rw [Int.pow_succ] at h2
        apply Int.le_antisymm
        · exact Int.le_of_lt_add_one (Int.ediv_lt_of_lt_mul (pow_pos2 k) (by omega))
        · exact (Int.le_ediv_iff_mul_le (pow_pos2 k)).2 (by omega)
      rw [e]; rfl
    obtain ⟨i, hi⟩ := Int.eq_ofNat_of_zero_le (Int.emod_nonneg a1 (show (64 : Int) ≠ 0 by decide))
    have hi63 : i ≤ 63 := by omega
    have hp := pow_pos2 i
    have hlt : (2 : Int) ^ i < 18446744073709551616 := by
      rw [pow_cast]
      have := Nat.pow_lt_pow_right (a := 2) (by decide) (show i < 64 by omega)
      omega
    have hw := IntWalk.u64_in ((2 : Int) ^ i) (by omega)
    have hl : logI (2 ^ i) = i := by
      have := logI_of (2 ^ i) (by omega) (i + 1) (by rw [Int.pow_succ]; omega) (fun j h => by
        have : j = i := by omega
        subst this; omega)
      rw [this]; omega
    have heq : decide ((i : Int) ≤ (k : Int)) = decide ((2 : Int) ^ i ≤ a0) := by
      rw [Bool.eq_iff_iff]
      simp only [decide_eq_true_eq]
      constructor
      · intro h5
        have : (2 : Int) ^ i ≤ 2 ^ k := by rw [pow_cast, pow_cast]; exact_mod_cast Nat.pow_le_pow_right (by decide) (by omega)
        omega
      · intro h5
        have : (2 : Int) ^ i < 2 ^ (k + 1) := by omega
        rw [pow_cast, pow_cast] at this
        have := (Nat.pow_lt_pow_iff_right (by decide : 1 < 2)).1 (show 2 ^ i < 2 ^ (k + 1) by exact_mod_cast this)
        omega
    have HW := Lib.hid hw
    have HI := Lib.hid hi
    have HL := Lib.hid hl
    have HE := Lib.hid heq
    clear h hk hw hi hl heq
    go_enter Try.func10, Try.ntmps10
    go_wp2_with fail
    refine (log_any a0 p0 p1 _).mono ?_
    rintro e w1 ⟨rfl, rfl⟩
    rw [HK.out]
    go_upto_region 5 with fail
    rw [HI.out]
    have ii : ((i : Nat) : Int).toNat = i := by omega
    have hw := HW.out
    have hiff : i ≤ k ↔ (2 : Int) ^ i ≤ a0 := by
      have := HE.out
      rw [Bool.eq_iff_iff] at this
      simpa using this
    rw [← hw] at hiff
    have HF := Lib.hid hiff
    clear hiff hw
    go_wp2_with fail
    refine (log_any (2 ^ i) (by omega) hlt _).mono ?_
    rintro e w2 ⟨rfl, rfl⟩
    rw [HL.out]
    clear hlt hp
    go_wp2_with fail
    all_goals first | exact absurd HF.out (by assumption) | skip
    refine (shown_any _).mono ?_
    rintro e w3 ⟨rfl, hB⟩
    go_wp2_with fail
    go_ret
    exact ⟨rfl, hB⟩
set_option maxRecDepth 100000 in
theorem lifted (os : Os) (started : os.Started) (H : Type) (enc : TypeId × Value → H) :
    ReturnsInHanded {} Try.checked os 10 .any (Rows.wideLogsSpec.pre6 enc Try.prog Try.f10 Rows.wideLogsRow.domain false) (Rows.wideLogsSpec.post enc Try.prog Try.f10 false true false false) := by
  refine returnsInHanded_of_change (C := Try.checked) own started (by kernel_rfl) Try.func10
    (ChangeSpec.witness6 (enc := enc) (C := Try.checked) false ⟨#[], #[.int .u64 0, .int .u8 0], []⟩ 8 (by kernel_rfl) (by kernel_rfl) (by kernel_rfl) (by kernel_rfl)) ?_
  intro W base args ds gs before hval0 hW hcnd _
  have hval : ∀ (j : Nat) t v, Try.f10.params[j]? = some t → args[j]? = some v → Value.okWide Try.prog W .any base t v := hval0
  have hW' := hW
  obtain ⟨p, q, hA0, hV, rfl, hfz, hnd⟩ := hW
  have hA : DataW.TrodAll enc Try.prog W 0 (fun _ => true) true Try.f10.params.toList args.toList ds p := hA0
  rw [Try.params10] at hA hval
  obtain ⟨v0, vs0, d0, ds0, p0, q0, hargs, rfl, rfl, h0, r0⟩ := trodAll_cons hA
  obtain ⟨v1, vs1, d1, ds1, p1, q1, rfl, rfl, rfl, h1, r1⟩ := trodAll_cons r0
  obtain ⟨rfl, rfl, rfl⟩ := trodAll_nil r1
  obtain rfl : args = #[v0, v1] := by cases args; simp_all
  obtain ⟨rfl, rfl⟩ := trodVars_none hV
  obtain ⟨a0, rfl, rfl, rfl, w0⟩ := open_int Try.underlying22 (hval 0 22 v0 rfl rfl) h0
  obtain ⟨a1, rfl, rfl, rfl, w1⟩ := open_int Try.underlying5 (hval 1 5 v1 rfl rfl) h1
  clear hA0 hval0
  refine (walk a0 a1 W w0 w1).mono fun e W' ⟨he, bel⟩ => ?_
  subst he
  exact ⟨_, rfl, _, _, _, [], _, [], hW', trodAll_mk1 (shut_bool Try.underlying4 _), (trodAll_cons_mk (shut_int Try.underlying22 w0) (trodAll_cons_mk (shut_int Try.underlying5 w1) trodAll_mk0)), rfl, bel.frame _, fun h => by cases h⟩

theorem over : Rows.wideLogsRow.holds Try.pinned (OpenSpec.ofChange Rows.wideLogsSpec) :=
  OpenClaim.holds_of_wide 10 Try.f10 rfl rfl rfl rfl rfl rfl rfl ⟨rfl, rfl, rfl, rfl, rfl⟩ rfl rfl rfl rfl rfl (by kernel_rfl) Try.func10 (by kernel_rfl)
    (of_decide_eq_true (by kernel_rfl)) (by unfold Func.isWrapper; first | (rw [if_pos (by decide +kernel)]; kernel_rfl) | (rw [if_neg (by decide +kernel)]; exact ⟨rfl, rfl⟩))
    (fun os started H enc _ => lifted os started H enc)

theorem proved : Rows.WideLogsSaid := over
end Go.Proofs.Ytgbioeekdnglhaa.WideLogs
