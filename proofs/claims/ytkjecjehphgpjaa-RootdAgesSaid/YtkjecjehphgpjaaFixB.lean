/- The walks of layer 2: sums, differences, the nearest of a range, an end. -/
import Derived.Test.YtkjecjehphgpjaaFixA
namespace Go.Proofs.Ytkjecjehphgpjaa.W
open Go.RowKit
set_option linter.unusedVariables false
set_option linter.unusedSimpArgs false
set_option maxHeartbeats 800000 in
theorem add_any (a b : Int) (ha : -9223372036854775808 ≤ a) (ha' : a ≤ 9223372036854775807) (hb : -9223372036854775808 ≤ b) (hb' : b ≤ 9223372036854775807) (w : World) :
    Calls Try.prog 14 #[.int .i64 a, .int .i64 b] w fun e w' => e = .returned (.int .i64 (addI a b)) ∧ w = w' := by
  by_cases hin : -9223372036854775808 ≤ a + b ∧ a + b ≤ 9223372036854775807
  · obtain ⟨h1, h2⟩ := hin
    have hw := whole_is (a + b) h1 h2
    by_cases h3 : a < 0 <;> by_cases h4 : b < 0 <;> by_cases h5 : a + b < 0
    all_goals try omega
    all_goals
      go_enter Try.func14, Try.ntmps14
      go_wp2_with fail
      refine (hw _).mono ?_
      rintro e w1 ⟨rfl, rfl⟩
      go_wp2_with fail
      go_ret
      exact ⟨rfl, rfl⟩
  · by_cases h3 : a < 0
    · have hs : wrap64 (a + b) = a + b + 18446744073709551616 := by simp only [wrap64, IntKind.wrap_i64]; omega
      have h4 : b < 0 := by omega
      have h5 : ¬ (a + b + 18446744073709551616 < 0) := by omega
      have hm := most_is true (addI a b) (most_down _ (by omega))
      clear hin
      go_enter Try.func14, Try.ntmps14
      go_wp2_with fail
      refine (hm _).mono ?_
      rintro e w1 ⟨rfl, rfl⟩
      go_wp2_with fail
      go_ret
      exact ⟨rfl, rfl⟩
    · have hs : wrap64 (a + b) = a + b - 18446744073709551616 := by simp only [wrap64, IntKind.wrap_i64]; omega
      have h4 : ¬ (b < 0) := by omega
      have h5 : a + b - 18446744073709551616 < 0 := by omega
      have hm := most_is false (addI a b) (most_up _ (by omega))
      clear hin
      go_enter Try.func14, Try.ntmps14
      go_wp2_with fail
      refine (hm _).mono ?_
      rintro e w1 ⟨rfl, rfl⟩
      go_wp2_with fail
      go_ret
      exact ⟨rfl, rfl⟩
set_option maxHeartbeats 800000 in
theorem sub_any (a b : Int) (ha : -9223372036854775808 ≤ a) (ha' : a ≤ 9223372036854775807) (hb : -9223372036854775808 ≤ b) (hb' : b ≤ 9223372036854775807) (w : World) :
    Calls Try.prog 16 #[.int .i64 a, .int .i64 b] w fun e w' => e = .returned (.int .i64 (subI a b)) ∧ w = w' := by
  by_cases hin : -9223372036854775808 ≤ a - b ∧ a - b ≤ 9223372036854775807
  · obtain ⟨h1, h2⟩ := hin
    have hw := whole_is (a - b) h1 h2
    by_cases h3 : a < 0 <;> by_cases h4 : b < 0 <;> by_cases h5 : a - b < 0
    all_goals try omega
    all_goals
      go_enter Try.func16, Try.ntmps16
      go_wp2_with fail
      refine (hw _).mono ?_
      rintro e w1 ⟨rfl, rfl⟩
      go_wp2_with fail
      go_ret
      exact ⟨rfl, rfl⟩
  · by_cases h3 : a < 0
    · have hs : wrap64 (a - b) = a - b + 18446744073709551616 := by simp only [wrap64, IntKind.wrap_i64]; omega
      have h4 : ¬ (b < 0) := by omega
      have h5 : ¬ (a - b + 18446744073709551616 < 0) := by omega
      have hm := most_is true (subI a b) (most_down _ (by omega))
      clear hin
      go_enter Try.func16, Try.ntmps16
      go_wp2_with fail
      refine (hm _).mono ?_
      rintro e w1 ⟨rfl, rfl⟩
      go_wp2_with fail
      go_ret
      exact ⟨rfl, rfl⟩
    · have hs : wrap64 (a - b) = a - b - 18446744073709551616 := by simp only [wrap64, IntKind.wrap_i64]; omega
      have h4 : b < 0 := by omega
      have h5 : a - b - 18446744073709551616 < 0 := by omega
      have hm := most_is false (subI a b) (most_up _ (by omega))
      clear hin
      go_enter Try.func16, Try.ntmps16
      go_wp2_with fail
      refine (hm _).mono ?_
      rintro e w1 ⟨rfl, rfl⟩
      go_wp2_with fail
      go_ret
      exact ⟨rfl, rfl⟩
end Go.Proofs.Ytkjecjehphgpjaa.W
