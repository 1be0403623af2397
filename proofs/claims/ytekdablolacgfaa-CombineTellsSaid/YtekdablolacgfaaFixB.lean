/- The walks of layer 2: sums, differences, the nearest of a range, an end. -/
import Derived.Test.YtekdablolacgfaaFixA
namespace Go.Proofs.Ytekdablolacgfaa.W
open Go.RowKit
set_option linter.unusedVariables false
set_option linter.unusedSimpArgs false
set_option maxHeartbeats 800000 in
theorem add_any (a b : Int) (ha : -9223372036854775808 ≤ a) (ha' : a ≤ 9223372036854775807) (hb : -9223372036854775808 ≤ b) (hb' : b ≤ 9223372036854775807) (w : World) :
    Calls Try.prog 34 #[.int .i64 a, .int .i64 b] w fun e w' => e = .returned (.int .i64 (addI a b)) ∧ w = w' := by
  by_cases hin : -9223372036854775808 ≤ a + b ∧ a + b ≤ 9223372036854775807
  · obtain ⟨h1, h2⟩ := hin
    have hw := whole_is (a + b) h1 h2
    by_cases h3 : a < 0 <;> by_cases h4 : b < 0 <;> by_cases h5 : a + b < 0
    all_goals try omega
    all_goals
      go_enter Try.func34, Try.ntmps34
      go_wp2_with fail
      refine (hw _).mono ?_
      rintro e w1 ⟨rfl, rfl⟩
      go_wp2_with fail
      go_ret
      exact ⟨rfl, rfl⟩
  · by_cases h3 : a < 0
    · have hs : wrap64 (a + b) = a + b + 18446744073709551616 := by simp only [wrap64, IntKind.wrap_i64]; omega
      have h4 : b < 0 := by omega
      have h5 : ¬ (a + b + 18446744073709551616 < 0) := by omega
      have hm := most_is true (addI a b) (most_down _ (by omega))
      clear hin
      go_enter Try.func34, Try.ntmps34
      go_wp2_with fail
      refine (hm _).mono ?_
      rintro e w1 ⟨rfl, rfl⟩
      go_wp2_with fail
      go_ret
      exact ⟨rfl, rfl⟩
    · have hs : wrap64 (a + b) = a + b - 18446744073709551616 := by simp only [wrap64, IntKind.wrap_i64]; omega
      have h4 : ¬ (b < 0) := by omega
      have h5 : a + b - 18446744073709551616 < 0 := by omega
      have hm := most_is false (addI a b) (most_up _ (by omega))
      clear hin
      go_enter Try.func34, Try.ntmps34
      go_wp2_with fail
      refine (hm _).mono ?_
      rintro e w1 ⟨rfl, rfl⟩
      go_wp2_with fail
      go_ret
      exact ⟨rfl, rfl⟩
set_option maxHeartbeats 800000 in
theorem sub_any (a b : Int) (ha : -9223372036854775808 ≤ a) (ha' : a ≤ 9223372036854775807) (hb : -9223372036854775808 ≤ b) (hb' : b ≤ 9223372036854775807) (w : World) :
    Calls Try.prog 28 #[.int .i64 a, .int .i64 b] w fun e w' => e = .returned (.int .i64 (subI a b)) ∧ w = w' := by
  by_cases hin : -9223372036854775808 ≤ a - b ∧ a - b ≤ 9223372036854775807
  · obtain ⟨h1, h2⟩ := hin
    have hw := whole_is (a - b) h1 h2
    by_cases h3 : a < 0 <;> by_cases h4 : b < 0 <;> by_cases h5 : a - b < 0
    all_goals try omega
    all_goals
      go_enter Try.func28, Try.ntmps28
      go_wp2_with fail
      refine (hw _).mono ?_
      rintro e w1 ⟨rfl, rfl⟩
      go_wp2_with fail
      go_ret
      exact ⟨rfl, rfl⟩
  · by_cases h3 : a < 0
    · have hs : wrap64 (a - b) = a - b + 18446744073709551616 := by simp only [wrap64, IntKind.wrap_i64]; omega
      have h4 : ¬ (b < 0) := by omega
      have h5 : ¬ (a - b + 18446744073709551616 < 0) := by omega
      have hm := most_is true (subI a b) (most_down _ (by omega))
      clear hin
      go_enter Try.func28, Try.ntmps28
      go_wp2_with fail
      refine (hm _).mono ?_
      rintro e w1 ⟨rfl, rfl⟩
      go_wp2_with fail
      go_ret
      exact ⟨rfl, rfl⟩
    · have hs : wrap64 (a - b) = a - b - 18446744073709551616 := by simp only [wrap64, IntKind.wrap_i64]; omega
      have h4 : b < 0 := by omega
      have h5 : a - b - 18446744073709551616 < 0 := by omega
      have hm := most_is false (subI a b) (most_up _ (by omega))
      clear hin
      go_enter Try.func28, Try.ntmps28
      go_wp2_with fail
      refine (hm _).mono ?_
      rintro e w1 ⟨rfl, rfl⟩
      go_wp2_with fail
      go_ret
      exact ⟨rfl, rfl⟩
set_option maxHeartbeats 800000 in
theorem clamp_any (a l h : Int) (ha : -9223372036854775808 ≤ a) (ha' : a ≤ 9223372036854775807) (hl : -9223372036854775808 ≤ l) (hl' : l ≤ 9223372036854775807) (hh : -9223372036854775808 ≤ h) (hh' : h ≤ 9223372036854775807) (w : World) :
    Calls Try.prog 21 #[.int .i64 a, .int .i64 l, .int .i64 h] w fun e w' => e = .returned (.int .i64 (clampI a l h)) ∧ w = w' := by
  by_cases h1 : a < l
  · have hw := whole_is l hl hl'
    rw [show cutI l = clampI a l h by unfold clampI; rw [if_pos h1]] at hw
    go_enter Try.func21, Try.ntmps21
    go_wp2_with fail
    refine (hw _).mono ?_
    rintro e w1 ⟨rfl, rfl⟩
    go_wp2_with fail
    go_ret
    exact ⟨rfl, rfl⟩
  · by_cases h2 : h < a
    · have hw := whole_is h hh hh'
      rw [show cutI h = clampI a l h by unfold clampI; rw [if_neg h1, if_pos h2]] at hw
      go_enter Try.func21, Try.ntmps21
      go_wp2_with fail
      refine (hw _).mono ?_
      rintro e w1 ⟨rfl, rfl⟩
      go_wp2_with fail
      go_ret
      exact ⟨rfl, rfl⟩
    · have hw := whole_is a ha ha'
      rw [show cutI a = clampI a l h by unfold clampI; rw [if_neg h1, if_neg h2]] at hw
      go_enter Try.func21, Try.ntmps21
      go_wp2_with fail
      refine (hw _).mono ?_
      rintro e w1 ⟨rfl, rfl⟩
      go_wp2_with fail
      go_ret
      exact ⟨rfl, rfl⟩
set_option maxHeartbeats 800000 in
theorem rclamp_any (a l h : Int) (ha : -9223372036854775808 ≤ a) (ha' : a ≤ 9223372036854775807) (hl : -9223372036854775808 ≤ l) (hl' : l ≤ 9223372036854775807) (hh : -9223372036854775808 ≤ h) (hh' : h ≤ 9223372036854775807) (w : World) :
    Calls Try.prog 24 #[.int .i64 a, .int .i64 l, .int .i64 h] w fun e w' => e = .returned (.int .i64 (clampI a l h)) ∧ w = w' := by
  go_enter Try.func24, Try.ntmps24
  go_wp2
  all_goals go_ret
  all_goals exact ⟨ret1 (by simp only [clampI, cutI]; omega), rfl⟩
set_option maxHeartbeats 800000 in
theorem radd_any (a b : Int) (ha : -9223372036854775808 ≤ a) (ha' : a ≤ 9223372036854775807) (hb : -9223372036854775808 ≤ b) (hb' : b ≤ 9223372036854775807) (w : World) :
    Calls Try.prog 22 #[.int .i64 a, .int .i64 b] w fun e w' => e = .returned (.int .i64 (addI a b)) ∧ w = w' := by
  by_cases h3 : a < 0 <;> by_cases h4 : b < 0
  · have ka := rsize_is a (-a) ha ha' (by unfold sizeI; omega)
    have kb := rsize_is b (-b) hb hb' (by unfold sizeI; omega)
    by_cases ho : -a + -b < 18446744073709551616
    · have hc := rcut_is true (-a + -b) false (addI a b) (by omega) (by omega) (by simp only [restI, isB, addI, cutI, if_true, if_false, Bool.false_eq_true] <;> (try omega))
      have hn : ¬ (-a + -b < -a) := by omega
      go_enter Try.func22, Try.ntmps22
      go_wp2_with fail
      refine (ka _).mono ?_
      rintro e w1 ⟨rfl, rfl⟩
      go_wp2_with fail
      refine (kb _).mono ?_
      rintro e w1 ⟨rfl, rfl⟩
      go_wp2_with fail
      refine (ka _).mono ?_
      rintro e w1 ⟨rfl, rfl⟩
      go_wp2_with fail
      refine (hc _).mono ?_
      rintro e w1 ⟨rfl, rfl⟩
      go_wp2_with fail
      go_ret
      exact ⟨rfl, rfl⟩
    · have hc := rcut_is true 18446744073709551615 false (addI a b) (by omega) (by omega) (by simp only [restI, isB, addI, cutI, if_true, if_false, Bool.false_eq_true]; omega)
      have hw : IntKind.u64.wrap (-a + -b) = -a + -b - 18446744073709551616 := by simp only [IntKind.wrap_u64]; omega
      have hn : -a + -b - 18446744073709551616 < -a := by omega
      go_enter Try.func22, Try.ntmps22
      go_wp2_with fail
      refine (ka _).mono ?_
      rintro e w1 ⟨rfl, rfl⟩
      go_wp2_with fail
      refine (kb _).mono ?_
      rintro e w1 ⟨rfl, rfl⟩
      go_wp2_with fail
      refine (ka _).mono ?_
      rintro e w1 ⟨rfl, rfl⟩
      go_wp2_with fail
      refine (hc _).mono ?_
      rintro e w1 ⟨rfl, rfl⟩
      go_wp2_with fail
      go_ret
      exact ⟨rfl, rfl⟩
  · go_enter Try.func22, Try.ntmps22
    go_wp2
    all_goals go_ret
    all_goals exact ⟨ret1 (by simp only [addI, cutI]; omega), rfl⟩
  · go_enter Try.func22, Try.ntmps22
    go_wp2
    all_goals go_ret
    all_goals exact ⟨ret1 (by simp only [addI, cutI]; omega), rfl⟩
  · have hd : decide (a < 0) = false := by simp; omega
    have ka := rsize_is a (a) ha ha' (by unfold sizeI; omega)
    have kb := rsize_is b (b) hb hb' (by unfold sizeI; omega)
    by_cases ho : a + b < 18446744073709551616
    · have hc := rcut_is false (a + b) false (addI a b) (by omega) (by omega) (by simp only [restI, isB, addI, cutI, if_true, if_false, Bool.false_eq_true] <;> (try omega))
      have hn : ¬ (a + b < a) := by omega
      go_enter Try.func22, Try.ntmps22
      go_wp2_with fail
      refine (ka _).mono ?_
      rintro e w1 ⟨rfl, rfl⟩
      go_wp2_with fail
      refine (kb _).mono ?_
      rintro e w1 ⟨rfl, rfl⟩
      go_wp2_with fail
      refine (ka _).mono ?_
      rintro e w1 ⟨rfl, rfl⟩
      go_wp2_with fail
      refine (hc _).mono ?_
      rintro e w1 ⟨rfl, rfl⟩
      go_wp2_with fail
      go_ret
      exact ⟨rfl, rfl⟩
    · omega
set_option maxHeartbeats 800000 in
theorem rsub_any (a b : Int) (ha : -9223372036854775808 ≤ a) (ha' : a ≤ 9223372036854775807) (hb : -9223372036854775808 ≤ b) (hb' : b ≤ 9223372036854775807) (w : World) :
    Calls Try.prog 30 #[.int .i64 a, .int .i64 b] w fun e w' => e = .returned (.int .i64 (subI a b)) ∧ w = w' := by
  by_cases h3 : a < 0 <;> by_cases h4 : b < 0
  · go_enter Try.func30, Try.ntmps30
    go_wp2
    all_goals go_ret
    all_goals exact ⟨ret1 (by simp only [subI, cutI]; omega), rfl⟩
  · have ka := rsize_is a (-a) ha ha' (by unfold sizeI; omega)
    have kb := rsize_is b (b) hb hb' (by unfold sizeI; omega)
    by_cases ho : -a + b < 18446744073709551616
    · have hc := rcut_is true (-a + b) false (subI a b) (by omega) (by omega) (by simp only [restI, isB, subI, cutI, if_true, if_false, Bool.false_eq_true] <;> (try omega))
      have hn : ¬ (-a + b < -a) := by omega
      go_enter Try.func30, Try.ntmps30
      go_wp2_with fail
      refine (ka _).mono ?_
      rintro e w1 ⟨rfl, rfl⟩
      go_wp2_with fail
      refine (kb _).mono ?_
      rintro e w1 ⟨rfl, rfl⟩
      go_wp2_with fail
      refine (ka _).mono ?_
      rintro e w1 ⟨rfl, rfl⟩
      go_wp2_with fail
      refine (hc _).mono ?_
      rintro e w1 ⟨rfl, rfl⟩
      go_wp2_with fail
      go_ret
      exact ⟨rfl, rfl⟩
    · omega
  · have hd : decide (a < 0) = false := by simp; omega
    have ka := rsize_is a (a) ha ha' (by unfold sizeI; omega)
    have kb := rsize_is b (-b) hb hb' (by unfold sizeI; omega)
    by_cases ho : a + -b < 18446744073709551616
    · have hc := rcut_is false (a + -b) false (subI a b) (by omega) (by omega) (by simp only [restI, isB, subI, cutI, if_true, if_false, Bool.false_eq_true] <;> (try omega))
      have hn : ¬ (a + -b < a) := by omega
      go_enter Try.func30, Try.ntmps30
      go_wp2_with fail
      refine (ka _).mono ?_
      rintro e w1 ⟨rfl, rfl⟩
      go_wp2_with fail
      refine (kb _).mono ?_
      rintro e w1 ⟨rfl, rfl⟩
      go_wp2_with fail
      refine (ka _).mono ?_
      rintro e w1 ⟨rfl, rfl⟩
      go_wp2_with fail
      refine (hc _).mono ?_
      rintro e w1 ⟨rfl, rfl⟩
      go_wp2_with fail
      go_ret
      exact ⟨rfl, rfl⟩
    · omega
  · go_enter Try.func30, Try.ntmps30
    go_wp2
    all_goals go_ret
    all_goals exact ⟨ret1 (by simp only [subI, cutI]; omega), rfl⟩
end Go.Proofs.Ytekdablolacgfaa.W
