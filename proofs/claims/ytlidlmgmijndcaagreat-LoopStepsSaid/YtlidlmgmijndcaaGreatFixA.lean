/- The walks of layer 2 that reckon with nothing but numbers of 64 bits. -/
import Derived.Test.YtlidlmgmijndcaaGreatRows
import Derived.Test.YtlidlmgmijndcaaGreatFdefs
import Derived.WalkKit
import Derived.WalkSpells
import Derived.WalkLawsBesides
import Derived.Lib.Hide
import Derived.Handy
namespace Go.Proofs.YtlidlmgmijndcaaGreat.W
open Go.RowKit
set_option linter.unusedVariables false
set_option linter.unusedSimpArgs false
set_option maxHeartbeats 400000 in
theorem size_any (a : Int) (ha : -9223372036854775808 ≤ a) (ha' : a ≤ 9223372036854775807) (w : World) :
    Calls Tryz.prog 33 #[.int .i64 a] w fun e w' => e = .returned (.int .u64 (sizeI a)) ∧ w = w' := by
  by_cases ha : a < 0
  all_goals
    go_enter Tryz.func33, Tryz.ntmps33
    go_wp2
    go_ret
    exact ⟨ret1 (by unfold sizeI; (try simp only [wrap64, wrap32, IntKind.wrap_u64, IntKind.wrap_i64, IntKind.wrap_u32, IntKind.wrap_i32, IntKind.wrap_u8, IntKind.wrap_u16]) <;> omega), rfl⟩
set_option maxHeartbeats 800000 in
theorem cut_any (below : Bool) (n r : Int) (h : 0 ≤ n) (h' : n < 18446744073709551616) (g : 0 ≤ r) (g' : r < 18446744073709551616) (w : World) :
    Calls Tryz.prog 32 #[.bool below, .int .u64 n, .int .u64 r] w fun e w' => e = .returned (.int .i64 (cutI (restI below n r))) ∧ w = w' := by
  cases below
  all_goals
    go_enter Tryz.func32, Tryz.ntmps32
    go_wp2
    all_goals go_ret
    all_goals exact ⟨ret1 (by simp only [cutI, restI, if_true, if_false, Bool.false_eq_true]; (try simp only [wrap64, wrap32, IntKind.wrap_u64, IntKind.wrap_i64, IntKind.wrap_u32, IntKind.wrap_i32, IntKind.wrap_u8, IntKind.wrap_u16]) <;> omega), rfl⟩
theorem cut_is (below : Bool) (n r v : Int) (h : 0 ≤ n) (h' : n < 18446744073709551616) (g : 0 ≤ r) (g' : r < 18446744073709551616) (hv : cutI (restI below n r) = v) (w : World) :
    Calls Tryz.prog 32 #[.bool below, .int .u64 n, .int .u64 r] w fun e w' => e = .returned (.int .i64 v) ∧ w = w' := hv ▸ cut_any below n r h h' g g' w
set_option maxHeartbeats 800000 in
theorem most_any (below : Bool) (w : World) :
    Calls Tryz.prog 34 #[.bool below] w fun e w' => e = .returned (.int .i64 (cutI (signI below 18446744073709551615))) ∧ w = w' := by
  have h := cut_is below 18446744073709551615 0 (cutI (signI below 18446744073709551615)) (by decide) (by decide) (by decide) (by decide) (by simp [restI, signI])
  go_enter Tryz.func34, Tryz.ntmps34
  go_wp2_with fail
  refine (h _).mono ?_
  rintro e w1 ⟨rfl, rfl⟩
  go_wp2_with fail
  go_ret
  exact ⟨rfl, rfl⟩
theorem most_is (below : Bool) (v : Int) (hv : cutI (signI below 18446744073709551615) = v) (w : World) :
    Calls Tryz.prog 34 #[.bool below] w fun e w' => e = .returned (.int .i64 v) ∧ w = w' := hv ▸ most_any below w
set_option maxHeartbeats 800000 in
theorem whole_is (a : Int) (ha : -9223372036854775808 ≤ a) (ha' : a ≤ 9223372036854775807) (w : World) :
    Calls Tryz.prog 35 #[.int .i64 a] w fun e w' => e = .returned (.int .i64 (cutI a)) ∧ w = w' := by
  have hs := sizeI_range a ha ha'
  have hc := cut_is (decide (a < 0)) (sizeI a) 0 (cutI a) hs.1 (by omega) (by decide) (by decide) (by by_cases h : a < 0 <;> simp [restI, sizeI, h])
  go_enter Tryz.func35, Tryz.ntmps35
  go_wp2_with fail
  refine (size_any a ha ha' _).mono ?_
  rintro e w1 ⟨rfl, rfl⟩
  go_wp2_with fail
  refine (hc _).mono ?_
  rintro e w1 ⟨rfl, rfl⟩
  go_wp2_with fail
  go_ret
  exact ⟨rfl, rfl⟩
set_option maxHeartbeats 800000 in
theorem abs_any (a : Int) (ha : -9223372036854775808 ≤ a) (ha' : a ≤ 9223372036854775807) (w : World) :
    Calls Tryz.prog 20 #[.int .i64 a] w fun e w' => e = .returned (.int .i64 (absI a)) ∧ w = w' := by
  have hs := sizeI_range a ha ha'
  have hc := cut_is false (sizeI a) 0 (absI a) hs.1 (by omega) (by decide) (by decide) (by simp [restI, absI])
  go_enter Tryz.func20, Tryz.ntmps20
  go_wp2_with fail
  refine (size_any a ha ha' _).mono ?_
  rintro e w1 ⟨rfl, rfl⟩
  go_wp2_with fail
  refine (hc _).mono ?_
  rintro e w1 ⟨rfl, rfl⟩
  go_wp2_with fail
  go_ret
  exact ⟨rfl, rfl⟩
end Go.Proofs.YtlidlmgmijndcaaGreat.W
