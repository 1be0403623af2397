import Derived.Test.YtekdablolacgfaaRows
import Derived.Test.YtekdablolacgfaaWdefs
import Derived.WalkSpells
import Derived.WalkLawsBesides
import Derived.Lib.Hide
import Derived.Handy
namespace Go.Proofs.Ytekdablolacgfaa.W
open Go.RowKit
set_option linter.unusedVariables false

set_option maxHeartbeats 800000 in
theorem less_any (a b c d : Int) (w : World) :
    Calls Try.prog 65 #[.int .u64 a, .int .u64 b, .int .u64 c, .int .u64 d] w fun e w' => e = .returned (.bool (lessB a b c d)) ∧ w = w' := by
  go_enter Try.func65, Try.ntmps65
  go_wp2
  all_goals go_ret
  all_goals exact ⟨ret1b (by unfold lessB; rw [Bool.eq_iff_iff]; simp; omega), rfl⟩
set_option maxHeartbeats 800000 in
theorem rless_any (a b c d : Int) (w : World) :
    Calls Try.prog 67 #[.int .u64 a, .int .u64 b, .int .u64 c, .int .u64 d] w fun e w' => e = .returned (.bool (lessB a b c d)) ∧ w = w' := by
  go_enter Try.func67, Try.ntmps67
  go_wp2
  all_goals go_ret
  all_goals exact ⟨ret1b (by unfold lessB; rw [Bool.eq_iff_iff]; simp; omega), rfl⟩
set_option maxHeartbeats 800000 in
theorem rplus_any (a b c d : Int) (h0 : 0 ≤ a) (h1 : a < 18446744073709551616) (h2 : 0 ≤ b) (h3 : b < 18446744073709551616) (h4 : 0 ≤ c) (h5 : c < 18446744073709551616) (h6 : 0 ≤ d) (h7 : d < 18446744073709551616) (w : World) :
    Calls Try.prog 61 #[.int .u64 a, .int .u64 b, .int .u64 c, .int .u64 d] w fun e w' => e = .returned (.tuple #[.int .u64 (plusH a b c d), .int .u64 (plusL b d), .bool (plusM a b c d)]) ∧ w = w' := by
  go_enter Try.func61, Try.ntmps61
  go_wp2
  all_goals simp only [IntKind.wrap_u64] at *
  all_goals go_ret3
  all_goals exact ⟨ret3 (by unfold plusH; omega) (by unfold plusL; omega) (by unfold plusM; rw [Bool.eq_iff_iff]; simp; omega), rfl⟩
end Go.Proofs.Ytekdablolacgfaa.W
