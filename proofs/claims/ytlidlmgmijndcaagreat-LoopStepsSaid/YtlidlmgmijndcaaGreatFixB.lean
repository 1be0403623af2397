/- The walks of layer 2: sums, differences, the nearest of a range, an end. -/
import Derived.Test.YtlidlmgmijndcaaGreatFixA
namespace Go.Proofs.YtlidlmgmijndcaaGreat.W
open Go.RowKit
set_option linter.unusedVariables false
set_option linter.unusedSimpArgs false
set_option maxHeartbeats 800000 in
theorem add_any (a b : Int) (ha : -9223372036854775808 ≤ a) (ha' : a ≤ 9223372036854775807) (hb : -9223372036854775808 ≤ b) (hb' : b ≤ 9223372036854775807) (w : World) :
    Calls Tryz.prog 27 #[.int .i64 a, .int .i64 b] w fun e w' => e = .returned (.int .i64 (addI a b)) ∧ w = w' := by
  by_cases hin : -9223372036854775808 ≤ a + b ∧ a + b ≤ 9223372036854775807
  · obtain ⟨h1, h2⟩ := hin
    have hw := whole_is (a + b) h1 h2
    by_cases h3 : a < 0 <;> by_cases h4 : b < 0 <;> by_cases h5 : a + b < 0
    all_goals try omega
    all_goals
      go_enter Tryz.func27, Tryz.ntmps27
      go_wp2_with fail
      refine (hw _).mono ?_
      rintro e w1 ⟨rfl, rfl⟩
      go_wp2_with fail
      go_ret
      exact ⟨rfl, rfl⟩
  · by_cases h3 : a < 0
    · have hs : wrap64 (a + b) = a + b + 18446744073709551616 := by simp only [wrap64, IntKind.wrap_i64]; omega
      have h4 : b < 0 := by omega
      have h5 : ¬ (a + b + 18446744073709551616 < 0) := by omega
      have hm := most_is true (addI a b) (most_down _ (by omega))
      clear hin
      go_enter Tryz.func27, Tryz.ntmps27
      go_wp2_with fail
      refine (hm _).mono ?_
      rintro e w1 ⟨rfl, rfl⟩
      go_wp2_with fail
      go_ret
      exact ⟨rfl, rfl⟩
    · have hs : wrap64 (a + b) = a + b - 18446744073709551616 := by simp only [wrap64, IntKind.wrap_i64]; omega
      have h4 : ¬ (b < 0) := by omega
      have h5 : a + b - 18446744073709551616 < 0 := by omega
      have hm := most_is false (addI a b) (most_up _ (by omega))
      clear hin
      go_enter Tryz.func27, Tryz.ntmps27
      go_wp2_with fail
      refine (hm _).mono ?_
      rintro e w1 ⟨rfl, rfl⟩
      go_wp2_with fail
      go_ret
      exact ⟨rfl, rfl⟩
set_option maxHeartbeats 800000 in
theorem sub_any (a b : Int) (ha : -9223372036854775808 ≤ a) (ha' : a ≤ 9223372036854775807) (hb : -9223372036854775808 ≤ b) (hb' : b ≤ 9223372036854775807) (w : World) :
    Calls Tryz.prog 21 #[.int .i64 a, .int .i64 b] w fun e w' => e = .returned (.int .i64 (subI a b)) ∧ w = w' := by
  by_cases hin : -9223372036854775808 ≤ a - b ∧ a - b ≤ 9223372036854775807
  · obtain ⟨h1, h2⟩ := hin
    have hw := whole_is (a - b) h1 h2
    by_cases h3 : a < 0 <;> by_cases h4 : b < 0 <;> by_cases h5 : a - b < 0
    all_goals try omega
    all_goals
      go_enter Tryz.func21, Tryz.ntmps21
      go_wp2_with fail
      refine (hw _).mono ?_
      rintro e w1 ⟨rfl, rfl⟩
      go_wp2_with fail
      go_ret
      exact ⟨rfl, rfl⟩
  · by_cases h3 : a < 0
    · have hs : wrap64 (a - b) = a - b + 18446744073709551616 := by simp only [wrap64, IntKind.wrap_i64]; omega
      have h4 : ¬ (b < 0) := by omega
      have h5 : ¬ (a - b + 18446744073709551616 < 0) := by omega
      have hm := most_is true (subI a b) (most_down _ (by omega))
      clear hin
      go_enter Tryz.func21, Tryz.ntmps21
      go_wp2_with fail
      refine (hm _).mono ?_
      rintro e w1 ⟨rfl, rfl⟩
      go_wp2_with fail
      go_ret
      exact ⟨rfl, rfl⟩
    · have hs : wrap64 (a - b) = a - b - 18446744073709551616 := by simp only [wrap64, IntKind.wrap_i64]; omega
      have h4 : b < 0 := by omega
      have h5 : a - b - 18446744073709551616 < 0 := by omega
      have hm := most_is false (subI a b) (most_up _ (by omega))
      clear hin
      go_enter Tryz.func21, Tryz.ntmps21
      go_wp2_with fail
      refine (hm _).mono ?_
      rintro e w1 ⟨rfl, rfl⟩
      go_wp2_with fail
      go_ret
      exact ⟨rfl, rfl⟩
set_option maxHeartbeats 800000 in
theorem clamp_any (a l h : Int) (ha : -9223372036854775808 ≤ a) (ha' : a ≤ 9223372036854775807) (hl : -9223372036854775808 ≤ l) (hl' : l ≤ 9223372036854775807) (hh : -9223372036854775808 ≤ h) (hh' : h ≤ 9223372036854775807) (w : World) :
    Calls Tryz.prog 31 #[.int .i64 a, .int .i64 l, .int .i64 h] w fun e w' => e = .returned (.int .i64 (clampI a l h)) ∧ w = w' := by
  by_cases h1 : a < l
  · have hw := whole_is l hl hl'
    rw [show cutI l = clampI a l h by unfold clampI; rw [if_pos h1]] at hw
    go_enter Tryz.func31, Tryz.ntmps31
    go_wp2_with fail
    refine (hw _).mono ?_
    rintro e w1 ⟨rfl, rfl⟩
    go_wp2_with fail
    go_ret
    exact ⟨rfl, rfl⟩
  · by_cases h2 : h < a
    · have hw := whole_is h hh hh'
      rw [show cutI h = clampI a l h by unfold clampI; rw [if_neg h1, if_pos h2]] at hw
      go_enter Tryz.func31, Tryz.ntmps31
      go_wp2_with fail
      refine (hw _).mono ?_
      rintro e w1 ⟨rfl, rfl⟩
      go_wp2_with fail
      go_ret
      exact ⟨rfl, rfl⟩
    · have hw := whole_is a ha ha'
      rw [show cutI a = clampI a l h by unfold clampI; rw [if_neg h1, if_neg h2]] at hw
      go_enter Tryz.func31, Tryz.ntmps31
      go_wp2_with fail
      refine (hw _).mono ?_
      rintro e w1 ⟨rfl, rfl⟩
      go_wp2_with fail
      go_ret
      exact ⟨rfl, rfl⟩
end Go.Proofs.YtlidlmgmijndcaaGreat.W
