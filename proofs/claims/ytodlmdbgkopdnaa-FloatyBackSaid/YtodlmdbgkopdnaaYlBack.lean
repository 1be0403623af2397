/- FloatyBack: for every int64 and every uint8, the number of at most 53 bits, and up to nine noughts behind them, that is made of both comes back as itself, and is told just where it has room. No condition. -/
import Derived.Test.YtodlmdbgkopdnaaFyF
import Derived.WalkKit
import Derived.WalkSpells
import Derived.WalkLawsBesides
import Derived.Lib.Hide
import Derived.Handy
import Derived.ProofKit
import Derived.OpenShut
import Derived.ShutString
import Derived.ChangeOld
import Derived.Below
namespace Go.Proofs.Ytodlmdbgkopdnaa.FloatyBack
open Go.Proofs.Ytodlmdbgkopdnaa.W
open Go.ChangeShapes Go.WideShapes Go.ChangeAt Go.RowKit
open Go.ChangeMaps (open_string shut_string)
set_option linter.unusedVariables false
theorem own : ownKnob Try.prog.godebug = none := by kernel_rfl
theorem laidOut : laidOutB Try.prog = true := by kernel_rfl
set_option linter.unusedSimpArgs false
/-- What comes back. -/
theorem back (c : Int) (k : Nat) (hc : c.natAbs < 9007199254740992) (h : -4611686018427387904 < c * 2 ^ k) (h' : c * 2 ^ k < 4611686018427387904) :
    toB (c * 2 ^ k) < 18446744073709551616 ∧ ofV (toB (c * 2 ^ k)) = c * 2 ^ k ∧ ofE (toB (c * 2 ^ k)) = 0 ∧ FloatKind.f64.format.order (toB (c * 2 ^ k)) 13970166044103278592 = some .gt ∧ FloatKind.f64.format.order (toB (c * 2 ^ k)) 4746794007248502784 = some .lt := by
  obtain ⟨_, f, l, v⟩ := to_spec (c * 2 ^ k) (by omega)
  rw [of_int_exact c k hc (by omega)] at v
  generalize c * 2 ^ k = n at *
  have hU := U_pos
  have m1 : n * U < 4611686018427387904 * U := Int.mul_lt_mul_of_pos_right h' hU
  have m2 : -4611686018427387904 * U < n * U := Int.mul_lt_mul_of_pos_right h hU
  have hi : isIn (toB n) := by rw [isIn_iff]; omega
  refine ⟨l, ?_, ofE_in hi, ?_, ?_⟩
  · unfold ofV
    rw [if_pos hi, v, Int.mul_ediv_cancel _ (by omega)]
  · exact order_gt f.isN isN_consts.1 (by rw [V_foot]; omega)
  · exact order_lt f.isN isN_consts.2.1 (by rw [V_top]; omega)
set_option maxHeartbeats 1600000 in
theorem walk (a0 a1 : Int) (w : World) (w0 : (Lit.int .i64 a0).wf = true) (w1 : (Lit.int .u8 a1).wf = true) :
    Calls Try.prog 6 #[.int .i64 a0, .int .u8 a1] w fun e w' => e = .returned (.bool true) ∧ Below w.heap.size w w' := by
  have b0 := bounds_i64 w0
  have b1 : 0 ≤ a1 ∧ a1 ≤ 255 := by simp [Lit.wf, IntKind.min, IntKind.max, IntKind.bits, IntKind.signed] at w1; omega
  clear w0 w1
  have hc : (a0.tmod 9007199254740992).natAbs < 9007199254740992 := by
    rw [Int.natAbs_tmod]; exact Nat.mod_lt _ (by decide)
  by_cases hk : a1 % 2 = 1
  · obtain ⟨n, hn, n1, n2, f1, f2, f3, f4, f5⟩ : ∃ n, wrap64 (a0.tmod 9007199254740992 * 2 ^ (a1 / 2 % 10).toNat) = n ∧ -4611686018427387904 < n ∧ n < 4611686018427387904 ∧ toB n < 18446744073709551616 ∧ ofV (toB n) = n ∧ ofE (toB n) = 0 ∧ FloatKind.f64.format.order (toB n) 13970166044103278592 = some .gt ∧ FloatKind.f64.format.order (toB n) 4746794007248502784 = some .lt := by
      generalize a0.tmod 9007199254740992 = c at *
      obtain ⟨j, hj⟩ : ∃ j, (a1 / 2 % 10).toNat = j := ⟨_, rfl⟩
      have hj9 : j ≤ 9 := by omega
      rw [hj]
      have hp : (2 : Int) ^ j ≤ 512 ∧ 1 ≤ (2 : Int) ^ j := by
        have h1 : 2 ^ j ≤ 2 ^ 9 := Nat.pow_le_pow_right (by decide) hj9
        have h2 := Nat.two_pow_pos j
        rw [← pow_cast]
        omega
      have m1 : c * 2 ^ j ≤ 9007199254740991 * 512 := by
        by_cases h0 : 0 ≤ c
        · exact Int.le_trans (Int.mul_le_mul_of_nonneg_left hp.1 h0) (Int.mul_le_mul_of_nonneg_right (by omega) (by decide))
        · have : c * 2 ^ j ≤ c * 1 := Int.mul_le_mul_of_nonpos_left (by omega) hp.2
          omega
      have m2 : -9007199254740991 * 512 ≤ c * 2 ^ j := by
        by_cases h0 : 0 ≤ c
        · have := Int.mul_nonneg h0 (Int.le_trans (by decide) hp.2)
          omega
        · have : c * 512 ≤ c * 2 ^ j := Int.mul_le_mul_of_nonpos_left (by omega) hp.1
          omega
      have hb := back c j hc (by omega) (by omega)
      refine ⟨c * 2 ^ j, ?_, by omega, by omega, hb⟩
      generalize c * 2 ^ j = x at *
      (try simp only [wrap64, IntKind.wrap_u64, IntKind.wrap_i64]) <;> omega
    have c1 := to_any n (by omega) (by omega)
    have c2 := of_any (toB n) f1
    rw [f2, f3] at c2
    clear f1 f2 f3 hc b0
    generalize toB n = t at *
    go_enter Try.func6, Try.ntmps6
    go_wp2_with fail
    (with_reducible refine (c1 _).mono ?_)
    rintro e w' ⟨rfl, rfl⟩
    go_wp2_with fail
    (with_reducible refine (c2 _).mono ?_)
    rintro e w' ⟨rfl, rfl⟩
    go_wp2_with fail
    (with_reducible refine (c1 _).mono ?_)
    rintro e w' ⟨rfl, rfl⟩
    go_wp2_with fail
    (with_reducible refine (c1 _).mono ?_)
    rintro e w' ⟨rfl, rfl⟩
    go_wp2_with fail
    (with_reducible refine (kshown_any _).mono ?_)
    rintro e w' ⟨rfl, rfl⟩
    go_wp2_with fail
    go_ret
    exact ⟨rfl, Below.refl _ _⟩
  · obtain ⟨n, hn, n1, n2, f1, f2, f3, f4, f5⟩ : ∃ n, a0.tmod 9007199254740992 = n ∧ -4611686018427387904 < n ∧ n < 4611686018427387904 ∧ toB n < 18446744073709551616 ∧ ofV (toB n) = n ∧ ofE (toB n) = 0 ∧ FloatKind.f64.format.order (toB n) 13970166044103278592 = some .gt ∧ FloatKind.f64.format.order (toB n) 4746794007248502784 = some .lt := by
      generalize a0.tmod 9007199254740992 = c at *
      have hb := back c 0 hc (by simp; omega) (by simp; omega)
      rw [show c * 2 ^ 0 = c by simp] at hb
      exact ⟨c, rfl, by omega, by omega, hb⟩
    have c1 := to_any n (by omega) (by omega)
    have c2 := of_any (toB n) f1
    rw [f2, f3] at c2
    clear f1 f2 f3 hc b0
    generalize toB n = t at *
    go_enter Try.func6, Try.ntmps6
    go_wp2_with fail
    (with_reducible refine (c1 _).mono ?_)
    rintro e w' ⟨rfl, rfl⟩
    go_wp2_with fail
    (with_reducible refine (c2 _).mono ?_)
    rintro e w' ⟨rfl, rfl⟩
    go_wp2_with fail
    (with_reducible refine (c1 _).mono ?_)
    rintro e w' ⟨rfl, rfl⟩
    go_wp2_with fail
    (with_reducible refine (c1 _).mono ?_)
    rintro e w' ⟨rfl, rfl⟩
    go_wp2_with fail
    (with_reducible refine (kshown_any _).mono ?_)
    rintro e w' ⟨rfl, rfl⟩
    go_wp2_with fail
    go_ret
    exact ⟨rfl, Below.refl _ _⟩
set_option maxRecDepth 100000 in
theorem lifted (os : Os) (started : os.Started) (H : Type) (enc : TypeId × Value → H) :
    ReturnsInHanded {} Try.checked os 6 .any (Rows.floatyBackSpec.pre6 enc Try.prog Try.f6 Rows.floatyBackRow.domain false) (Rows.floatyBackSpec.post enc Try.prog Try.f6 false true false false) := by
  refine returnsInHanded_of_change (C := Try.checked) own started (by kernel_rfl) Try.func6
    (ChangeSpec.witness6 (enc := enc) (C := Try.checked) false ⟨#[], #[.int .i64 0, .int .u8 0], []⟩ 8 (by kernel_rfl) (by kernel_rfl) (by kernel_rfl) (by kernel_rfl)) ?_
  intro W base args ds gs before hval0 hW hcnd _
  have hval : ∀ (j : Nat) t v, Try.f6.params[j]? = some t → args[j]? = some v → Value.okWide Try.prog W .any base t v := hval0
  have hW' := hW
  obtain ⟨p, q, hA0, hV, rfl, hfz, hnd⟩ := hW
  have hA : DataW.TrodAll enc Try.prog W 0 (fun _ => true) true Try.f6.params.toList args.toList ds p := hA0
  rw [Try.params6] at hA hval
  obtain ⟨v0, vs0, d0, ds0, p0, q0, hargs, rfl, rfl, h0, r0⟩ := trodAll_cons hA
  obtain ⟨v1, vs1, d1, ds1, p1, q1, rfl, rfl, rfl, h1, r1⟩ := trodAll_cons r0
  obtain ⟨rfl, rfl, rfl⟩ := trodAll_nil r1
  obtain rfl : args = #[v0, v1] := by cases args; simp_all
  obtain ⟨rfl, rfl⟩ := trodVars_none hV
  obtain ⟨a0, rfl, rfl, rfl, w0⟩ := open_int Try.underlying2 (hval 0 2 v0 rfl rfl) h0
  obtain ⟨a1, rfl, rfl, rfl, w1⟩ := open_int Try.underlying5 (hval 1 5 v1 rfl rfl) h1
  clear hA0 hval0
  refine (walk a0 a1 W w0 w1).mono fun e W' ⟨he, bel⟩ => ?_
  subst he
  exact ⟨_, rfl, _, _, _, [], _, [], hW', trodAll_mk1 (shut_bool Try.underlying4 _), (trodAll_cons_mk (shut_int Try.underlying2 w0) (trodAll_cons_mk (shut_int Try.underlying5 w1) trodAll_mk0)), rfl, bel.frame _, fun h => by cases h⟩

theorem over : Rows.floatyBackRow.holds Try.pinned (OpenSpec.ofChange Rows.floatyBackSpec) :=
  OpenClaim.holds_of_wide 6 Try.f6 rfl rfl rfl rfl rfl rfl rfl ⟨rfl, rfl, rfl, rfl, rfl⟩ rfl rfl rfl rfl rfl (by kernel_rfl) Try.func6 (by kernel_rfl)
    (of_decide_eq_true (by kernel_rfl)) (by unfold Func.isWrapper; first | (rw [if_pos (by decide +kernel)]; kernel_rfl) | (rw [if_neg (by decide +kernel)]; exact ⟨rfl, rfl⟩))
    (fun os started H enc _ => lifted os started H enc)

theorem proved : Rows.FloatyBackSaid := over
end Go.Proofs.Ytodlmdbgkopdnaa.FloatyBack
