/- The walks of layer 2: shifts, powers, logarithms, roots. -/
import Derived.Test.YtlidlmgmijndcaaGreatFixC
namespace Go.Proofs.YtlidlmgmijndcaaGreat.W
open Go.RowKit
set_option linter.unusedVariables false
set_option linter.unusedSimpArgs false
theorem p64 : (2 : Int) ^ min 1000 64 = 18446744073709551616 := by decide
set_option maxHeartbeats 800000 in
theorem shift_any (a n : Int) (ha : -9223372036854775808 ≤ a) (ha' : a ≤ 9223372036854775807) (hn : -9223372036854775808 ≤ n) (hn' : n ≤ 9223372036854775807) (w : World) :
    Calls Tryz.prog 23 #[.int .i64 a, .int .i64 n] w fun e w' => e = .returned (.int .i64 (shiftI a n)) ∧ w = w' := by
  have ka := size_any a ha ha'
  obtain ⟨s0, s1⟩ := sizeI_range a ha ha'
  obtain ⟨x, hx⟩ : ∃ x, decide (a < 0) = x := ⟨_, rfl⟩
  by_cases h1 : n ≤ -1000
  · obtain ⟨q0, q1, r0, r1, p0, p1, hv⟩ := shift_down a 1000 x hx ha ha'
    rw [show cutI (a / 2 ^ 1000) = shiftI a n by unfold shiftI; rw [if_pos (by omega), show (min (-n) 1000).toNat = 1000 by omega]] at hv
    rw [p64] at q0 q1 r0 r1 p0 p1 hv
    have hc := cut_is x _ _ _ q0 (by omega) r0 (by omega) hv
    have e1 : IntKind.u64.wrap (sizeI a / 18446744073709551616 * 18446744073709551616) = sizeI a / 18446744073709551616 * 18446744073709551616 := IntWalk.u64_in _ (by omega)
    have e2 : IntKind.u64.wrap (sizeI a - sizeI a / 18446744073709551616 * 18446744073709551616) = sizeI a - sizeI a / 18446744073709551616 * 18446744073709551616 := IntWalk.u64_in _ (by omega)
    clear hv q0 q1 r0 r1 p0 p1
    by_cases h2 : n = -1000
    · subst h2
      go_enter Tryz.func23, Tryz.ntmps23
      go_wp2_with fail
      (with_reducible refine (ka _).mono ?_)
      rintro e w1 ⟨rfl, rfl⟩
      go_wp2_with fail
      (with_reducible refine (hc _).mono ?_)
      rintro e w1 ⟨rfl, rfl⟩
      go_wp2_with fail
      go_ret
      exact ⟨rfl, rfl⟩
    · have h3 : n < -1000 := by omega
      go_enter Tryz.func23, Tryz.ntmps23
      go_wp2_with fail
      (with_reducible refine (ka _).mono ?_)
      rintro e w1 ⟨rfl, rfl⟩
      go_wp2_with fail
      (with_reducible refine (hc _).mono ?_)
      rintro e w1 ⟨rfl, rfl⟩
      go_wp2_with fail
      go_ret
      exact ⟨rfl, rfl⟩
  by_cases h2 : n < 0
  · obtain ⟨q0, q1, r0, r1, p0, p1, hv⟩ := shift_down a (-n).toNat x hx ha ha'
    rw [show cutI (a / 2 ^ (-n).toNat) = shiftI a n by unfold shiftI; rw [if_pos (by omega), show (min (-n) 1000) = -n by omega]] at hv
    have hc := cut_is x _ _ _ q0 (by omega) r0 (by omega) hv
    have e1 : IntKind.u64.wrap (sizeI a / 2 ^ min (-n).toNat 64 * 2 ^ min (-n).toNat 64) = sizeI a / 2 ^ min (-n).toNat 64 * 2 ^ min (-n).toNat 64 := IntWalk.u64_in _ (by omega)
    have e2 : IntKind.u64.wrap (sizeI a - sizeI a / 2 ^ min (-n).toNat 64 * 2 ^ min (-n).toNat 64) = sizeI a - sizeI a / 2 ^ min (-n).toNat 64 * 2 ^ min (-n).toNat 64 := IntWalk.u64_in _ (by omega)
    clear hv q0 q1 r0 r1 p0 p1
    have h3 : n ≤ 0 := by omega
    have h4 : -1000 < n := by omega
    go_enter Tryz.func23, Tryz.ntmps23
    go_wp2_with fail
    (with_reducible refine (ka _).mono ?_)
    rintro e w1 ⟨rfl, rfl⟩
    go_wp2_with fail
    (with_reducible refine (hc _).mono ?_)
    rintro e w1 ⟨rfl, rfl⟩
    go_wp2_with fail
    go_ret
    exact ⟨rfl, rfl⟩
  by_cases h3 : n < 1000
  · have h4 : 0 ≤ n := by omega
    by_cases h5 : 9223372036854775807 / 2 ^ min n.toNat 64 < sizeI a
    · have hv := shift_over a n.toNat x hx ha ha' h5
      rw [show cutI (a * 2 ^ n.toNat) = shiftI a n by unfold shiftI; rw [if_neg (by omega), show (min n 1000) = n by omega]] at hv
      have hc := most_is x _ hv
      clear hv
      go_enter Tryz.func23, Tryz.ntmps23
      go_wp2_with fail
      (with_reducible refine (ka _).mono ?_)
      rintro e w1 ⟨rfl, rfl⟩
      go_wp2_with fail
      (with_reducible refine (hc _).mono ?_)
      rintro e w1 ⟨rfl, rfl⟩
      go_wp2_with fail
      go_ret
      exact ⟨rfl, rfl⟩
    · obtain ⟨q0, q1, hv⟩ := shift_up a n.toNat x hx ha ha' (by omega)
      rw [show cutI (a * 2 ^ n.toNat) = shiftI a n by unfold shiftI; rw [if_neg (by omega), show (min n 1000) = n by omega]] at hv
      have hc := cut_is x _ 0 _ q0 (by omega) (by decide) (by decide) hv
      have e1 : IntKind.u64.wrap (sizeI a * 2 ^ min n.toNat 64) = sizeI a * 2 ^ min n.toNat 64 := IntWalk.u64_in _ (by omega)
      clear hv
      go_enter Tryz.func23, Tryz.ntmps23
      go_wp2_with fail
      (with_reducible refine (ka _).mono ?_)
      rintro e w1 ⟨rfl, rfl⟩
      go_wp2_with fail
      (with_reducible refine (hc _).mono ?_)
      rintro e w1 ⟨rfl, rfl⟩
      go_wp2_with fail
      go_ret
      exact ⟨rfl, rfl⟩
  by_cases h5 : 0 < sizeI a
  · have hv := shift_over a 1000 x hx ha ha' (by rw [p64]; simpa using h5)
    rw [show cutI (a * 2 ^ 1000) = shiftI a n by unfold shiftI; rw [if_neg (by omega), show (min n 1000).toNat = 1000 by omega]] at hv
    have hc := most_is x _ hv
    clear hv
    by_cases h6 : n = 1000
    · subst h6
      go_enter Tryz.func23, Tryz.ntmps23
      go_wp2_with fail
      (with_reducible refine (ka _).mono ?_)
      rintro e w1 ⟨rfl, rfl⟩
      go_wp2_with fail
      (with_reducible refine (hc _).mono ?_)
      rintro e w1 ⟨rfl, rfl⟩
      go_wp2_with fail
      go_ret
      exact ⟨rfl, rfl⟩
    · have h7 : 1000 < n := by omega
      go_enter Tryz.func23, Tryz.ntmps23
      go_wp2_with fail
      (with_reducible refine (ka _).mono ?_)
      rintro e w1 ⟨rfl, rfl⟩
      go_wp2_with fail
      (with_reducible refine (hc _).mono ?_)
      rintro e w1 ⟨rfl, rfl⟩
      go_wp2_with fail
      go_ret
      exact ⟨rfl, rfl⟩
  · have h0 : sizeI a = 0 := by omega
    have hv : cutI (restI x 0 0) = shiftI a n := by
      have : a = 0 := by unfold sizeI at h0; omega
      subst this
      have : cutI (0 * 2 ^ (min n 1000).toNat) = 0 := by rw [Int.zero_mul]; rfl
      unfold shiftI
      rw [if_neg (by omega), this]
      cases x <;> rfl
    have hc := cut_is x 0 0 _ (by decide) (by decide) (by decide) (by decide) hv
    rw [h0] at ka
    clear hv h0 s0 s1 h5
    by_cases h6 : n = 1000
    · subst h6
      go_enter Tryz.func23, Tryz.ntmps23
      go_wp2_with fail
      (with_reducible refine (ka _).mono ?_)
      rintro e w1 ⟨rfl, rfl⟩
      go_wp2_with fail
      (with_reducible refine (hc _).mono ?_)
      rintro e w1 ⟨rfl, rfl⟩
      go_wp2_with fail
      go_ret
      exact ⟨rfl, rfl⟩
    · have h7 : 1000 < n := by omega
      go_enter Tryz.func23, Tryz.ntmps23
      go_wp2_with fail
      (with_reducible refine (ka _).mono ?_)
      rintro e w1 ⟨rfl, rfl⟩
      go_wp2_with fail
      (with_reducible refine (hc _).mono ?_)
      rintro e w1 ⟨rfl, rfl⟩
      go_wp2_with fail
      go_ret
      exact ⟨rfl, rfl⟩
set_option maxHeartbeats 800000 in
theorem pow_any (n : Int) (hn : -9223372036854775808 ≤ n) (hn' : n ≤ 9223372036854775807) (w : World) :
    Calls Tryz.prog 28 #[.int .i64 n] w fun e w' => e = .returned (.int .i64 (shiftI 4294967296 n)) ∧ w = w' := by
  have hc := shift_any 4294967296 n (by decide) (by decide) hn hn'
  go_enter Tryz.func28, Tryz.ntmps28
  go_wp2_with fail
  (with_reducible refine (hc _).mono ?_)
  rintro e w1 ⟨rfl, rfl⟩
  go_wp2_with fail
  go_ret
  exact ⟨rfl, rfl⟩
theorem root_is (a : Int) (ha : -9223372036854775808 ≤ a) (ha' : a ≤ 9223372036854775807) : cutI (restI false (rootI a) 0) = rootI a := by
  have := rootI_nonneg a
  have := rootI_lt a ha'
  simp only [restI, Bool.false_eq_true, if_false]
  exact cutI_in _ (by omega) (by omega)
set_option maxHeartbeats 800000 in
theorem fsqrt_any (a : Int) (ha : -9223372036854775808 ≤ a) (ha' : a ≤ 9223372036854775807) (w : World) :
    Calls Tryz.prog 26 #[.int .i64 a] w fun e w' => e = .returned (.int .i64 (rootI a)) ∧ Below w.heap.size w w' := by
  have r0 := rootI_nonneg a
  have r1 := rootI_lt a ha'
  have hc := cut_is false (rootI a) 0 (rootI a) r0 (by omega) (by decide) (by decide) (root_is a ha ha')
  rcases Int.lt_trichotomy a 0 with h | h | h
  · have hm := mul_any 0 4294967296 (by decide) (by decide) (by decide) (by decide)
    obtain ⟨m0, m1, m2, m3⟩ := mulH_range 0 4294967296 (by decide) (by decide) (by decide) (by decide)
    have hs := sqrt_any (mulH 0 4294967296) (mulL 0 4294967296) m0 (by omega) m2 m3
    rw [root_wide a _ _ (by rw [wide_mul, Int.max_eq_right (by omega)])] at hs
    generalize mulH 0 4294967296 = mh at *
    generalize mulL 0 4294967296 = ml at *
    generalize rootI a = r at *
    go_enter Tryz.func26, Tryz.ntmps26
    go_wp2_with fail
    (with_reducible refine (hm _).mono ?_)
    rintro e w1 ⟨rfl, hb1⟩
    go_wp2_with fail
    (with_reducible refine (hs _).mono ?_)
    rintro e w2 ⟨rfl, hb2⟩
    go_wp2_with fail
    (with_reducible refine (hc _).mono ?_)
    rintro e w3 ⟨rfl, rfl⟩
    go_wp2_with fail
    go_ret
    exact ⟨rfl, hb1.trans (hb2.mono hb1.size)⟩
  · subst h
    have hm := mul_any 0 4294967296 (by decide) (by decide) (by decide) (by decide)
    obtain ⟨m0, m1, m2, m3⟩ := mulH_range 0 4294967296 (by decide) (by decide) (by decide) (by decide)
    have hs := sqrt_any (mulH 0 4294967296) (mulL 0 4294967296) m0 (by omega) m2 m3
    rw [root_wide 0 _ _ (by rw [wide_mul, Int.max_eq_right (by omega)])] at hs
    generalize mulH 0 4294967296 = mh at *
    generalize mulL 0 4294967296 = ml at *
    generalize rootI 0 = r at *
    go_enter Tryz.func26, Tryz.ntmps26
    go_wp2_with fail
    (with_reducible refine (hm _).mono ?_)
    rintro e w1 ⟨rfl, hb1⟩
    go_wp2_with fail
    (with_reducible refine (hs _).mono ?_)
    rintro e w2 ⟨rfl, hb2⟩
    go_wp2_with fail
    (with_reducible refine (hc _).mono ?_)
    rintro e w3 ⟨rfl, rfl⟩
    go_wp2_with fail
    go_ret
    exact ⟨rfl, hb1.trans (hb2.mono hb1.size)⟩
  · have hm := mul_any a 4294967296 (by omega) (by omega) (by decide) (by decide)
    obtain ⟨m0, m1, m2, m3⟩ := mulH_range a 4294967296 (by omega) (by omega) (by decide) (by decide)
    have hs := sqrt_any (mulH a 4294967296) (mulL a 4294967296) m0 (by omega) m2 m3
    rw [root_wide a _ _ (by rw [wide_mul, Int.max_eq_left (by omega)])] at hs
    generalize mulH a 4294967296 = mh at *
    generalize mulL a 4294967296 = ml at *
    generalize rootI a = r at *
    go_enter Tryz.func26, Tryz.ntmps26
    go_wp2_with fail
    (with_reducible refine (hm _).mono ?_)
    rintro e w1 ⟨rfl, hb1⟩
    go_wp2_with fail
    (with_reducible refine (hs _).mono ?_)
    rintro e w2 ⟨rfl, hb2⟩
    go_wp2_with fail
    (with_reducible refine (hc _).mono ?_)
    rintro e w3 ⟨rfl, rfl⟩
    go_wp2_with fail
    go_ret
    exact ⟨rfl, hb1.trans (hb2.mono hb1.size)⟩
end Go.Proofs.YtlidlmgmijndcaaGreat.W
