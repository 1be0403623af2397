/- The walks of layer 2 that reckon with nothing but numbers of 64 bits. -/
import Derived.Test.YtekdablolacgfaaRows
import Derived.Test.YtekdablolacgfaaFdefs
import Derived.WalkKit
import Derived.WalkSpells
import Derived.WalkLawsBesides
import Derived.Lib.Hide
import Derived.Handy
namespace Go.Proofs.Ytekdablolacgfaa.W
open Go.RowKit
set_option linter.unusedVariables false
set_option linter.unusedSimpArgs false
set_option maxHeartbeats 400000 in
theorem size_any (a : Int) (ha : -9223372036854775808 ≤ a) (ha' : a ≤ 9223372036854775807) (w : World) :
    Calls Try.prog 51 #[.int .i64 a] w fun e w' => e = .returned (.int .u64 (sizeI a)) ∧ w = w' := by
  by_cases ha : a < 0
  all_goals
    go_enter Try.func51, Try.ntmps51
    go_wp2
    go_ret
    exact ⟨ret1 (by unfold sizeI; (try simp only [wrap64, wrap32, IntKind.wrap_u64, IntKind.wrap_i64, IntKind.wrap_u32, IntKind.wrap_i32, IntKind.wrap_u8, IntKind.wrap_u16]) <;> omega), rfl⟩
set_option maxHeartbeats 400000 in
theorem rsize_any (a : Int) (ha : -9223372036854775808 ≤ a) (ha' : a ≤ 9223372036854775807) (w : World) :
    Calls Try.prog 43 #[.int .i64 a] w fun e w' => e = .returned (.int .u64 (sizeI a)) ∧ w = w' := by
  by_cases ha : a < 0
  all_goals
    go_enter Try.func43, Try.ntmps43
    go_wp2
    go_ret
    exact ⟨ret1 (by unfold sizeI; (try simp only [wrap64, wrap32, IntKind.wrap_u64, IntKind.wrap_i64, IntKind.wrap_u32, IntKind.wrap_i32, IntKind.wrap_u8, IntKind.wrap_u16]) <;> omega), rfl⟩
theorem rsize_is (a v : Int) (h : -9223372036854775808 ≤ a) (h' : a ≤ 9223372036854775807) (hv : sizeI a = v) (w : World) :
    Calls Try.prog 43 #[.int .i64 a] w fun e w' => e = .returned (.int .u64 v) ∧ w = w' := hv ▸ rsize_any a h h' w
set_option maxHeartbeats 800000 in
theorem cut_any (below : Bool) (n r : Int) (h : 0 ≤ n) (h' : n < 18446744073709551616) (g : 0 ≤ r) (g' : r < 18446744073709551616) (w : World) :
    Calls Try.prog 48 #[.bool below, .int .u64 n, .int .u64 r] w fun e w' => e = .returned (.int .i64 (cutI (restI below n r))) ∧ w = w' := by
  cases below
  all_goals
    go_enter Try.func48, Try.ntmps48
    go_wp2
    all_goals go_ret
    all_goals exact ⟨ret1 (by simp only [cutI, restI, if_true, if_false, Bool.false_eq_true]; (try simp only [wrap64, wrap32, IntKind.wrap_u64, IntKind.wrap_i64, IntKind.wrap_u32, IntKind.wrap_i32, IntKind.wrap_u8, IntKind.wrap_u16]) <;> omega), rfl⟩
theorem cut_is (below : Bool) (n r v : Int) (h : 0 ≤ n) (h' : n < 18446744073709551616) (g : 0 ≤ r) (g' : r < 18446744073709551616) (hv : cutI (restI below n r) = v) (w : World) :
    Calls Try.prog 48 #[.bool below, .int .u64 n, .int .u64 r] w fun e w' => e = .returned (.int .i64 v) ∧ w = w' := hv ▸ cut_any below n r h h' g g' w
set_option maxHeartbeats 800000 in
theorem rcut_any (below : Bool) (n : Int) (r : Bool) (h : 0 ≤ n) (h' : n < 18446744073709551616) (w : World) :
    Calls Try.prog 44 #[.bool below, .int .u64 n, .bool r] w fun e w' => e = .returned (.int .i64 (cutI (restI below n (isB r)))) ∧ w = w' := by
  cases below <;> cases r
  all_goals
    go_enter Try.func44, Try.ntmps44
    go_wp2
    all_goals go_ret
    all_goals exact ⟨ret1 (by simp only [cutI, restI, isB, if_true, if_false, Bool.false_eq_true]; (try simp only [wrap64, wrap32, IntKind.wrap_u64, IntKind.wrap_i64, IntKind.wrap_u32, IntKind.wrap_i32, IntKind.wrap_u8, IntKind.wrap_u16]) <;> omega), rfl⟩
theorem rcut_is (below : Bool) (n : Int) (r : Bool) (v : Int) (h : 0 ≤ n) (h' : n < 18446744073709551616) (hv : cutI (restI below n (isB r)) = v) (w : World) :
    Calls Try.prog 44 #[.bool below, .int .u64 n, .bool r] w fun e w' => e = .returned (.int .i64 v) ∧ w = w' := hv ▸ rcut_any below n r h h' w
set_option maxHeartbeats 800000 in
theorem most_any (below : Bool) (w : World) :
    Calls Try.prog 50 #[.bool below] w fun e w' => e = .returned (.int .i64 (cutI (signI below 18446744073709551615))) ∧ w = w' := by
  have h := cut_is below 18446744073709551615 0 (cutI (signI below 18446744073709551615)) (by decide) (by decide) (by decide) (by decide) (by simp [restI, signI])
  go_enter Try.func50, Try.ntmps50
  go_wp2_with fail
  refine (h _).mono ?_
  rintro e w1 ⟨rfl, rfl⟩
  go_wp2_with fail
  go_ret
  exact ⟨rfl, rfl⟩
theorem most_is (below : Bool) (v : Int) (hv : cutI (signI below 18446744073709551615) = v) (w : World) :
    Calls Try.prog 50 #[.bool below] w fun e w' => e = .returned (.int .i64 v) ∧ w = w' := hv ▸ most_any below w
set_option maxHeartbeats 800000 in
theorem whole_is (a : Int) (ha : -9223372036854775808 ≤ a) (ha' : a ≤ 9223372036854775807) (w : World) :
    Calls Try.prog 42 #[.int .i64 a] w fun e w' => e = .returned (.int .i64 (cutI a)) ∧ w = w' := by
  have hs := sizeI_range a ha ha'
  have hc := cut_is (decide (a < 0)) (sizeI a) 0 (cutI a) hs.1 (by omega) (by decide) (by decide) (by by_cases h : a < 0 <;> simp [restI, sizeI, h])
  go_enter Try.func42, Try.ntmps42
  go_wp2_with fail
  refine (size_any a ha ha' _).mono ?_
  rintro e w1 ⟨rfl, rfl⟩
  go_wp2_with fail
  refine (hc _).mono ?_
  rintro e w1 ⟨rfl, rfl⟩
  go_wp2_with fail
  go_ret
  exact ⟨rfl, rfl⟩
set_option maxHeartbeats 800000 in
theorem abs_any (a : Int) (ha : -9223372036854775808 ≤ a) (ha' : a ≤ 9223372036854775807) (w : World) :
    Calls Try.prog 36 #[.int .i64 a] w fun e w' => e = .returned (.int .i64 (absI a)) ∧ w = w' := by
  have hs := sizeI_range a ha ha'
  have hc := cut_is false (sizeI a) 0 (absI a) hs.1 (by omega) (by decide) (by decide) (by simp [restI, absI])
  go_enter Try.func36, Try.ntmps36
  go_wp2_with fail
  refine (size_any a ha ha' _).mono ?_
  rintro e w1 ⟨rfl, rfl⟩
  go_wp2_with fail
  refine (hc _).mono ?_
  rintro e w1 ⟨rfl, rfl⟩
  go_wp2_with fail
  go_ret
  exact ⟨rfl, rfl⟩
set_option maxHeartbeats 800000 in
theorem rabs_any (a : Int) (ha : -9223372036854775808 ≤ a) (ha' : a ≤ 9223372036854775807) (w : World) :
    Calls Try.prog 38 #[.int .i64 a] w fun e w' => e = .returned (.int .i64 (absI a)) ∧ w = w' := by
  have hs := sizeI_range a ha ha'
  have hc := rcut_is false (sizeI a) false (absI a) hs.1 (by omega) (by simp [restI, absI])
  go_enter Try.func38, Try.ntmps38
  go_wp2_with fail
  refine (rsize_any a ha ha' _).mono ?_
  rintro e w1 ⟨rfl, rfl⟩
  go_wp2_with fail
  refine (hc _).mono ?_
  rintro e w1 ⟨rfl, rfl⟩
  go_wp2_with fail
  go_ret
  exact ⟨rfl, rfl⟩
end Go.Proofs.Ytekdablolacgfaa.W
