/- The walks of layer 2: sums, differences, the nearest of a range, an end. -/
import Derived.Test.YtpolcaghofnahaaFixA
namespace Go.Proofs.Ytpolcaghofnahaa.W
open Go.RowKit
set_option linter.unusedVariables false
set_option linter.unusedSimpArgs false
set_option maxHeartbeats 800000 in
theorem radd_any (a b : Int) (ha : -9223372036854775808 ≤ a) (ha' : a ≤ 9223372036854775807) (hb : -9223372036854775808 ≤ b) (hb' : b ≤ 9223372036854775807) (w : World) :
    Calls Try.prog 35 #[.int .i64 a, .int .i64 b] w fun e w' => e = .returned (.int .i64 (addI a b)) ∧ w = w' := by
  by_cases h3 : a < 0 <;> by_cases h4 : b < 0
  · have ka := rsize_is a (-a) ha ha' (by unfold sizeI; omega)
    have kb := rsize_is b (-b) hb hb' (by unfold sizeI; omega)
    by_cases ho : -a + -b < 18446744073709551616
    · have hc := rcut_is true (-a + -b) false (addI a b) (by omega) (by omega) (by simp only [restI, isB, addI, cutI, if_true, if_false, Bool.false_eq_true] <;> (try omega))
      have hn : ¬ (-a + -b < -a) := by omega
      go_enter Try.func35, Try.ntmps35
      go_wp2_with fail
      refine (ka _).mono ?_
      rintro e w1 ⟨rfl, rfl⟩
      go_wp2_with fail
      refine (kb _).mono ?_
      rintro e w1 ⟨rfl, rfl⟩
      go_wp2_with fail
      refine (ka _).mono ?_
      rintro e w1 ⟨rfl, rfl⟩
      go_wp2_with fail
      refine (hc _).mono ?_
      rintro e w1 ⟨rfl, rfl⟩
      go_wp2_with fail
      go_ret
      exact ⟨rfl, rfl⟩
    · have hc := rcut_is true 18446744073709551615 false (addI a b) (by omega) (by omega) (by simp only [restI, isB, addI, cutI, if_true, if_false, Bool.false_eq_true]; omega)
      have hw : IntKind.u64.wrap (-a + -b) = -a + -b - 18446744073709551616 := by simp only [IntKind.wrap_u64]; omega
      have hn : -a + -b - 18446744073709551616 < -a := by omega
      go_enter Try.func35, Try.ntmps35
      go_wp2_with fail
      refine (ka _).mono ?_
      rintro e w1 ⟨rfl, rfl⟩
      go_wp2_with fail
      refine (kb _).mono ?_
      rintro e w1 ⟨rfl, rfl⟩
      go_wp2_with fail
      refine (ka _).mono ?_
      rintro e w1 ⟨rfl, rfl⟩
      go_wp2_with fail
      refine (hc _).mono ?_
      rintro e w1 ⟨rfl, rfl⟩
      go_wp2_with fail
      go_ret
      exact ⟨rfl, rfl⟩
  · go_enter Try.func35, Try.ntmps35
    go_wp2
    all_goals go_ret
    all_goals exact ⟨ret1 (by simp only [addI, cutI]; omega), rfl⟩
  · go_enter Try.func35, Try.ntmps35
    go_wp2
    all_goals go_ret
    all_goals exact ⟨ret1 (by simp only [addI, cutI]; omega), rfl⟩
  · have hd : decide (a < 0) = false := by simp; omega
    have ka := rsize_is a (a) ha ha' (by unfold sizeI; omega)
    have kb := rsize_is b (b) hb hb' (by unfold sizeI; omega)
    by_cases ho : a + b < 18446744073709551616
    · have hc := rcut_is false (a + b) false (addI a b) (by omega) (by omega) (by simp only [restI, isB, addI, cutI, if_true, if_false, Bool.false_eq_true] <;> (try omega))
      have hn : ¬ (a + b < a) := by omega
      go_enter Try.func35, Try.ntmps35
      go_wp2_with fail
      refine (ka _).mono ?_
      rintro e w1 ⟨rfl, rfl⟩
      go_wp2_with fail
      refine (kb _).mono ?_
      rintro e w1 ⟨rfl, rfl⟩
      go_wp2_with fail
      refine (ka _).mono ?_
      rintro e w1 ⟨rfl, rfl⟩
      go_wp2_with fail
      refine (hc _).mono ?_
      rintro e w1 ⟨rfl, rfl⟩
      go_wp2_with fail
      go_ret
      exact ⟨rfl, rfl⟩
    · omega
end Go.Proofs.Ytpolcaghofnahaa.W
