/- The walks of layer 3: the reference's Kind and Of; To. -/
import Derived.Test.YtfanijdemephoaaFyB
namespace Go.Proofs.Ytfanijdemephoaa.W
open Go.RowKit
set_option linter.unusedVariables false
set_option linter.unusedSimpArgs false
theorem V_zero_iff (b : Nat) : V b = 0 ↔ rung b = 0 := by
  have h := abs_V b
  constructor
  · intro h0
    rw [h0] at h
    exact val_inj (by rw [← h, val_zero]; rfl)
  · intro h0
    rw [h0, val_zero] at h
    omega
theorem V_sign (b : Nat) (h : rung b ≠ 0) : (neg b = false ∧ 0 < V b) ∨ (neg b = true ∧ V b < 0) := by
  have h0 : V b ≠ 0 := fun e => h ((V_zero_iff b).1 e)
  unfold V at *
  cases hn : neg b
  · rw [hn, if_neg (by decide)] at h0; left; rw [if_neg (by decide)]; exact ⟨rfl, by omega⟩
  · rw [hn, if_pos rfl] at h0; right; rw [if_pos rfl]; exact ⟨rfl, by omega⟩
theorem V_0 : V 0 = 0 := by decide
theorem run_add (b g : Nat) (h : floatBits .add .f64 b b = some g) (t : TypeId) (w : World) : (binOp .add t (.float .f64 b) (.float .f64 b)).run Try.prog w = .ok (.float .f64 g) w := run_float_arith w .add t .f64 b _ g h
theorem run_quo (a b g : Nat) (h : floatBits .quo .f64 a b = some g) (t : TypeId) (w : World) : (binOp .quo t (.float .f64 a) (.float .f64 b)).run Try.prog w = .ok (.float .f64 g) w := run_float_arith w .quo t .f64 a _ g h
set_option maxHeartbeats 1600000 in
theorem rkind_any (b : Nat) (hb : b < 18446744073709551616) (w : World) : Calls Try.prog 56 #[.float .f64 b] w fun e w' => e = .returned (.int .i64 (kindI b)) ∧ w = w' := by
  unfold kindI
  obtain ⟨_, _, n0, _⟩ := isN_consts
  by_cases hn : isN b
  · rw [if_neg (Nat.not_lt.2 hn)]
    have o1 := order_eq hn hn rfl
    by_cases hz : rung b = 0
    · rw [if_neg (by omega), if_pos hz]
      have o2 := order_eq hn n0 (by rw [(V_zero_iff b).2 hz, V_0])
      have hd := run_quo _ b _ (one_over hz)
      have hi : isN (Ieee.double.word (neg b) 9218868437227405312) := by unfold isN; rw [rung_word _ _ (by decide)]; decide
      have hv := V_word (neg b) 9218868437227405312 (by decide)
      have hp : (0 : Int) < val 9218868437227405312 := by rw [val_inf]; have := pw_pos 2098; omega
      generalize Ieee.double.word (neg b) 9218868437227405312 = q at *
      generalize (val 9218868437227405312 : Int) = z at *
      cases hs : neg b
      · have o3 := order_gt hi n0 (by rw [hv, hs, V_0, if_neg (by decide)]; exact hp)
        clear hn hz hi hv hp hs n0
        rw [if_neg (by decide)]
        go_enter Try.func56, Try.ntmps56
        go_wp2
        all_goals (go_ret; exact ⟨rfl, rfl⟩)
      · have o3 := order_lt hi n0 (by rw [hv, hs, V_0, if_pos rfl]; omega)
        clear hn hz hi hv hp hs n0
        rw [if_pos rfl]
        go_enter Try.func56, Try.ntmps56
        go_wp2
        all_goals (go_ret; exact ⟨rfl, rfl⟩)
    · have key : ∃ g, floatBits .add .f64 b b = some g ∧ ((rung b = 9218868437227405312 ∧ FloatKind.f64.format.order b g = some .eq) ∨ (¬ rung b = 9218868437227405312 ∧ (FloatKind.f64.format.order b g = some .lt ∨ FloatKind.f64.format.order b g = some .gt))) := by
        by_cases hi : rung b = 9218868437227405312
        · exact ⟨b, twice_inf hi hb, .inl ⟨hi, o1⟩⟩
        · obtain ⟨r, hr, nr, vr⟩ := twice_fin (x := b) (by unfold isN at hn; unfold isF; omega) (fun e => hz ((V_zero_iff b).1 e))
          refine ⟨r, hr, .inr ⟨hi, ?_⟩⟩
          rcases Int.lt_or_gt_of_ne vr with h | h
          · exact .inr (order_gt hn nr h)
          · exact .inl (order_lt hn nr h)
      obtain ⟨g, hg, hc⟩ := key
      have ha := run_add b g hg
      rw [if_neg hz]
      rcases V_sign b hz with ⟨hs, hv⟩ | ⟨hs, hv⟩
      · have o2 := order_gt hn n0 (by rw [V_0]; exact hv)
        rw [hs]
        rcases hc with ⟨hi, o3⟩ | ⟨hi, o3 | o3⟩
        · rw [if_pos hi]
          clear hn hz hi hv hs n0 hg
          go_enter Try.func56, Try.ntmps56
          go_wp2
          all_goals (go_ret; exact ⟨rfl, rfl⟩)
        · rw [if_neg hi]
          clear hn hz hi hv hs n0 hg
          go_enter Try.func56, Try.ntmps56
          go_wp2
          all_goals (go_ret; exact ⟨rfl, rfl⟩)
        · rw [if_neg hi]
          clear hn hz hi hv hs n0 hg
          go_enter Try.func56, Try.ntmps56
          go_wp2
          all_goals (go_ret; exact ⟨rfl, rfl⟩)
      · have o2 := order_lt hn n0 (by rw [V_0]; exact hv)
        rw [hs]
        rcases hc with ⟨hi, o3⟩ | ⟨hi, o3 | o3⟩
        · rw [if_pos hi]
          clear hn hz hi hv hs n0 hg
          go_enter Try.func56, Try.ntmps56
          go_wp2
          all_goals (go_ret; exact ⟨rfl, rfl⟩)
        · rw [if_neg hi]
          clear hn hz hi hv hs n0 hg
          go_enter Try.func56, Try.ntmps56
          go_wp2
          all_goals (go_ret; exact ⟨rfl, rfl⟩)
        · rw [if_neg hi]
          clear hn hz hi hv hs n0 hg
          go_enter Try.func56, Try.ntmps56
          go_wp2
          all_goals (go_ret; exact ⟨rfl, rfl⟩)
  · rw [if_pos (Nat.not_le.1 hn)]
    have o1 := order_none (x := b) (y := b) (.inl hn)
    clear hn
    go_enter Try.func56, Try.ntmps56
    go_wp2
    all_goals (go_ret; exact ⟨rfl, rfl⟩)
/-- A floating-point number is whole, or small. -/
theorem whole_or_small (g : Nat) (h : isF g) : (∃ N : Int, V g = N * U) ∨ (V g).natAbs < 4503599627370496 * pw 1074 := by
  obtain ⟨m, i, _, v, hm, _, _⟩ := read_fin g h
  by_cases hi : 1074 ≤ i
  · left
    have e : val (rung g) = m * 2 ^ (i - 1074) * pw 1074 := by
      rw [v, Nat.mul_assoc]
      rw [show (2 : Nat) ^ i = pw i from rfl, show (2 : Nat) ^ (i - 1074) = pw (i - 1074) from rfl, ← pw_add, show i - 1074 + 1074 = i by omega]
    refine ⟨if neg g then -((m * 2 ^ (i - 1074) : Nat) : Int) else ((m * 2 ^ (i - 1074) : Nat) : Int), ?_⟩
    unfold V U
    rw [e, Int.natCast_mul]
    split
    · rw [Int.neg_mul]
    · rfl
  · right
    rw [abs_V, v]
    refine Nat.lt_of_lt_of_le (Nat.mul_lt_mul_of_pos_right hm (Nat.two_pow_pos i)) ?_
    rw [show 9007199254740992 * 2 ^ i = pw 53 * pw i from rfl, show 4503599627370496 = pw 52 from rfl, ← pw_add, ← pw_add]
    exact pw_le (by omega)
/-- The reference's steps of Of, for what has room. -/
theorem rof_steps (b : Nat) (h : isIn b) : ∃ g n, floatBits .mul .f64 b 4751297606875873280 = some g ∧ floatToIntVal .f64 g .i64 = some n ∧ -9223372036854775808 ≤ n ∧ n ≤ 9223372036854775807 ∧
    ((FloatKind.f64.format.order (floatOfInt .f64 n) g = some .gt ∧ n - 1 = ofV b) ∨ ((FloatKind.f64.format.order (floatOfInt .f64 n) g = some .lt ∨ FloatKind.f64.format.order (floatOfInt .f64 n) g = some .eq) ∧ n = ofV b)) := by
  obtain ⟨g, hg, fg, vg, _⟩ := mul_c h.isF h
  have hU := U_pos
  obtain ⟨h1, h2⟩ := (isIn_iff b).1 h
  have hd : V g / U = ofV b := by unfold ofV; rw [if_pos h, vg]
  obtain ⟨q1, q2⟩ := ofV_bounds b
  have ht := to_int64 g fg (by omega) (by omega)
  rw [← hd] at q1 q2 ⊢
  refine ⟨g, (V g).tdiv U, hg, ht, ?_⟩
  have hm1 := Int.mul_ediv_self_le (x := V g) (k := U) (by omega)
  have hm2 := Int.lt_mul_ediv_self_add (x := V g) (k := U) hU
  have low : ∀ n : Int, n.natAbs ≤ 9223372036854775808 → n * U ≤ V g → FloatKind.f64.format.order (floatOfInt .f64 n) g = some .lt ∨ FloatKind.f64.format.order (floatOfInt .f64 n) g = some .eq := by
    intro n hn hle
    obtain ⟨fx, _, _, hx, _⟩ := of_int n hn
    have := hx g fg.isN hle
    rcases Int.lt_or_eq_of_le this with k | k
    · exact .inl (order_lt fx.isN fg.isN k)
    · exact .inr (order_eq fx.isN fg.isN k)
  by_cases hs : 0 ≤ V g
  · rw [Int.tdiv_eq_ediv_of_nonneg hs]
    refine ⟨q1, q2, .inr ⟨low _ (by omega) ?_, rfl⟩⟩
    rw [Int.mul_comm]; exact hm1
  · by_cases he : V g = V g / U * U
    · have e2 : (V g).tdiv U = V g / U := by
        conv => lhs; rw [he]
        exact Int.mul_tdiv_cancel _ (by omega)
      rw [e2]
      refine ⟨q1, q2, .inr ⟨low _ (by omega) (by omega), rfl⟩⟩
    · have e2 : (V g).tdiv U = V g / U + 1 := by
        have h3 := Int.mul_tdiv_add_tmod (V g) U
        have h4 : (V g).tmod U ≤ 0 := by
          have := Int.tmod_nonneg (a := -(V g)) U (by omega)
          rw [Int.neg_tmod] at this
          omega
        have h5 : -U < (V g).tmod U := by
          have := Int.tmod_lt_of_pos (-(V g)) hU
          rw [Int.neg_tmod] at this
          omega
        have h6 : (V g).tmod U ≠ 0 := by
          intro h0
          rw [h0, Int.add_zero] at h3
          apply he
          have : V g / U = (V g).tdiv U := by
            conv => lhs; rw [← h3]
            exact Int.mul_ediv_cancel_left _ (by omega)
          rw [this, Int.mul_comm]
          exact h3.symm
        have h7 : V g / U = (V g).tdiv U - 1 := by
          rw [Int.ediv_eq_iff_of_pos hU, Int.sub_mul, Int.mul_comm]
          have : ((V g).tdiv U - 1 + 1) * U = U * (V g).tdiv U := by rw [Int.sub_add_cancel, Int.mul_comm]
          first | (rw [this]; omega) | omega
        omega
      rw [e2]
      rcases whole_or_small g fg with ⟨N, hN⟩ | hsm
      · exact absurd (by rw [hN, Int.mul_ediv_cancel _ (by omega)]) he
      · have hsm2 : -4503599627370496 ≤ V g / U := (Int.le_ediv_iff_mul_le hU).2 (by unfold U; omega)
        have hle0 : V g / U < 0 := Int.ediv_neg_of_neg_of_pos (by omega) hU
        have hx := of_int_exact (V g / U + 1) 0 (by omega) (by simp; omega)
        obtain ⟨fx, _⟩ := of_int (V g / U + 1) (by omega)
        rw [show (V g / U + 1) * 2 ^ 0 = V g / U + 1 by simp] at hx
        refine ⟨by omega, by omega, .inl ⟨order_gt fx.isN fg.isN ?_, by omega⟩⟩
        rw [hx, Int.add_mul, Int.mul_comm, Int.one_mul]
        exact hm2
theorem ofE_zero {b : Nat} (h : ofE b = 0) : isIn b ∧ isF b ∧ isN b := by
  unfold ofE at h
  split at h
  · omega
  · split at h
    · omega
    · split at h
      · rename_i k; exact ⟨k, k.isF, k.isF.isN⟩
      · omega
theorem ofE_in {b : Nat} (h : isIn b) : ofE b = 0 := by
  have := h.isF
  unfold isF at this
  unfold ofE
  rw [if_neg (by omega), if_neg (by omega), if_pos h]
end Go.Proofs.Ytfanijdemephoaa.W
