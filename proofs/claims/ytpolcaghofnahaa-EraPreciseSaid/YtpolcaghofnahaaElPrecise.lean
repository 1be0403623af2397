/- EraPrecise: for every int64, its precision lies from -32 to 31; that power of 2 seconds is not below it, and that of the one below it is. No condition. -/
import Derived.Test.YtpolcaghofnahaaEraZ
import Derived.Test.YtpolcaghofnahaaEraB
import Derived.WalkKit
import Derived.WalkSpells
import Derived.WalkLawsBesides
import Derived.Lib.Hide
import Derived.Handy
import Derived.ProofKit
import Derived.OpenShut
import Derived.ShutString
import Derived.ChangeOld
import Derived.Below
namespace Go.Proofs.Ytpolcaghofnahaa.EraPrecise
open Go.Proofs.Ytpolcaghofnahaa.W
open Go.ChangeShapes Go.WideShapes Go.ChangeAt Go.RowKit
open Go.ChangeMaps (open_string shut_string)
set_option linter.unusedVariables false
theorem own : ownKnob Try.prog.godebug = none := by kernel_rfl
theorem laidOut : laidOutB Try.prog = true := by kernel_rfl
set_option linter.unusedSimpArgs false
theorem prec_of (a : Int) (g' : a ≤ 9223372036854775807) : ∃ j : Nat, j ≤ 63 ∧ precI a = -32 + (j : Int) ∧ (0 < j → (2 : Int) ^ (j - 1) < a) ∧ (j < 63 → a ≤ 2 ^ j) := by
  by_cases h : a ≤ 1
  · refine ⟨0, by omega, ?_, by omega, fun _ => by simpa using h⟩
    unfold precI
    rw [show max a 1 - 1 = 0 by omega, logI_zero 0 (by omega)]
    rfl
  · obtain ⟨k, hk, hk1, hk2⟩ := logI_low (a - 1) (by omega)
    have hr := (logI_range (a - 1) (by omega)).2
    have h63 : k ≤ 62 := by
      apply Nat.le_of_not_lt
      intro hh
      have : (2 : Int) ^ 63 ≤ 2 ^ k := by rw [pow_cast, pow_cast]; exact_mod_cast Nat.pow_le_pow_right (by decide) hh
      simp at this
      omega
    refine ⟨k + 1, by omega, ?_, fun _ => by simp only [Nat.add_sub_cancel]; omega, fun _ => by omega⟩
    unfold precI
    rw [show max a 1 - 1 = a - 1 by omega, hk]
    omega
set_option maxHeartbeats 1600000 in
theorem walk (a0 : Int) (w : World) (w0 : (Lit.int .i64 a0).wf = true) :
    Calls Try.prog 9 #[.int .i64 a0] w fun e w' => e = .returned (.bool true) ∧ Below w.heap.size w w' := by
  obtain ⟨l0, u0⟩ := i64_bounds w0
  clear w0
  have cz := eshown_any
  have c1 := prec_any a0 l0 u0
  obtain ⟨j, hj, hv, hlo, hhi⟩ := prec_of a0 u0
  rw [hv] at c1
  have c2 := rpow_any (-32 + (j : Int)) (by omega) (by omega)
  have c3 := rpow_any (-32 + (j : Int) - 1) (by omega) (by omega)
  by_cases h63 : j = 63
  · subst h63
    rw [show (-32 + ((63 : Nat) : Int) - 1) = -32 + ((62 : Nat) : Int) by omega, pow_place 62 (by omega)] at c3
    have h := hlo (by omega)
    simp at h
    rw [show (2 : Int) ^ 62 = 4611686018427387904 by decide] at c3
    rw [show (-32 + ((63 : Nat) : Int)) = 31 by omega] at c1
    rw [show (-32 + ((62 : Nat) : Int)) = 30 by omega] at c3
    clear hhi hlo hv c2
    go_enter Try.func9, Try.ntmps9
    go_wp2_with fail
    (with_reducible refine (c1 _).mono ?_)
    rintro e w' ⟨rfl, rfl⟩
    go_wp2_with fail
    (with_reducible refine (cz _).mono ?_)
    rintro e w2 ⟨rfl, hb⟩
    have hB := hb
    clear hb
    go_wp2_with fail
    (with_reducible refine (c3 _).mono ?_)
    rintro e w' ⟨rfl, rfl⟩
    go_wp2_with fail
    go_ret
    exact ⟨rfl, hB⟩
  · have h2 := hhi (by omega)
    rw [pow_place j (by omega)] at c2
    by_cases h0 : j = 0
    · subst h0
      simp at h2 c1 c2
      clear hhi hlo hv c3
      go_enter Try.func9, Try.ntmps9
      go_wp2_with fail
      (with_reducible refine (c1 _).mono ?_)
      rintro e w' ⟨rfl, rfl⟩
      go_wp2_with fail
      (with_reducible refine (cz _).mono ?_)
      rintro e w2 ⟨rfl, hb⟩
      have hB := hb
      clear hb
      go_wp2_with fail
      (with_reducible refine (c2 _).mono ?_)
      rintro e w' ⟨rfl, rfl⟩
      go_wp2_with fail
      go_ret
      exact ⟨rfl, hB⟩
    · have h1 := hlo (by omega)
      obtain ⟨i, rfl⟩ : ∃ i, j = i + 1 := ⟨j - 1, by omega⟩
      rw [show (-32 + ((i + 1 : Nat) : Int) - 1) = -32 + (i : Int) by omega, pow_place i (by omega)] at c3
      simp only [Nat.add_sub_cancel] at h1
      obtain ⟨k, hk⟩ : ∃ k : Int, -32 + (i : Int) = k := ⟨_, rfl⟩
      rw [show (-32 + ((i + 1 : Nat) : Int)) = k + 1 by omega] at c1 c2
      rw [hk] at c3
      obtain ⟨k0, k1⟩ : -32 ≤ k ∧ k < 30 := by omega
      clear hhi hlo hv
      obtain ⟨q, hq⟩ : ∃ q : Int, (2 : Int) ^ (i + 1) = q := ⟨_, rfl⟩
      obtain ⟨r, hr⟩ : ∃ r : Int, (2 : Int) ^ i = r := ⟨_, rfl⟩
      rw [hq] at c2 h2
      rw [hr] at c3 h1
      clear hq hr hk
      go_enter Try.func9, Try.ntmps9
      go_wp2_with fail
      (with_reducible refine (c1 _).mono ?_)
      rintro e w' ⟨rfl, rfl⟩
      go_wp2_with fail
      (with_reducible refine (cz _).mono ?_)
      rintro e w2 ⟨rfl, hb⟩
      have hB := hb
      clear hb
      go_wp2_with fail
      (with_reducible refine (c2 _).mono ?_)
      rintro e w' ⟨rfl, rfl⟩
      go_wp2_with fail
      (with_reducible refine (c3 _).mono ?_)
      rintro e w' ⟨rfl, rfl⟩
      go_wp2_with fail
      go_ret
      exact ⟨rfl, hB⟩
set_option maxRecDepth 100000 in
theorem lifted (os : Os) (started : os.Started) (H : Type) (enc : TypeId × Value → H) :
    ReturnsInHanded {} Try.checked os 9 .any (Rows.eraPreciseSpec.pre6 enc Try.prog Try.f9 Rows.eraPreciseRow.domain false) (Rows.eraPreciseSpec.post enc Try.prog Try.f9 false true false false) := by
  refine returnsInHanded_of_change (C := Try.checked) own started (by kernel_rfl) Try.func9
    (ChangeSpec.witness6 (enc := enc) (C := Try.checked) false ⟨#[], #[.int .i64 0], []⟩ 8 (by kernel_rfl) (by kernel_rfl) (by kernel_rfl) (by kernel_rfl)) ?_
  intro W base args ds gs before hval0 hW hcnd _
  have hval : ∀ (j : Nat) t v, Try.f9.params[j]? = some t → args[j]? = some v → Value.okWide Try.prog W .any base t v := hval0
  have hW' := hW
  obtain ⟨p, q, hA0, hV, rfl, hfz, hnd⟩ := hW
  have hA : DataW.TrodAll enc Try.prog W 0 (fun _ => true) true Try.f9.params.toList args.toList ds p := hA0
  rw [Try.params9] at hA hval
  obtain ⟨v0, vs0, d0, ds0, p0, q0, hargs, rfl, rfl, h0, r0⟩ := trodAll_cons hA
  obtain ⟨rfl, rfl, rfl⟩ := trodAll_nil r0
  obtain rfl : args = #[v0] := by cases args; simp_all
  obtain ⟨rfl, rfl⟩ := trodVars_none hV
  obtain ⟨a0, rfl, rfl, rfl, w0⟩ := open_int Try.underlying2 (hval 0 2 v0 rfl rfl) h0
  clear hA0 hval0
  refine (walk a0 W w0).mono fun e W' ⟨he, bel⟩ => ?_
  subst he
  exact ⟨_, rfl, _, _, _, [], _, [], hW', trodAll_mk1 (shut_bool Try.underlying4 _), (trodAll_cons_mk (shut_int Try.underlying2 w0) trodAll_mk0), rfl, bel.frame _, fun h => by cases h⟩

theorem over : Rows.eraPreciseRow.holds Try.pinned (OpenSpec.ofChange Rows.eraPreciseSpec) :=
  OpenClaim.holds_of_wide 9 Try.f9 rfl rfl rfl rfl rfl rfl rfl ⟨rfl, rfl, rfl, rfl, rfl⟩ rfl rfl rfl rfl rfl (by kernel_rfl) Try.func9 (by kernel_rfl)
    (of_decide_eq_true (by kernel_rfl)) (by unfold Func.isWrapper; first | (rw [if_pos (by decide +kernel)]; kernel_rfl) | (rw [if_neg (by decide +kernel)]; exact ⟨rfl, rfl⟩))
    (fun os started H enc _ => lifted os started H enc)

theorem proved : Rows.EraPreciseSaid := over
end Go.Proofs.Ytpolcaghofnahaa.EraPrecise
