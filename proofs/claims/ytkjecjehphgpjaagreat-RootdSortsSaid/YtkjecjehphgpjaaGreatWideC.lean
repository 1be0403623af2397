import Derived.Test.YtkjecjehphgpjaaGreatRows
import Derived.Test.YtkjecjehphgpjaaGreatWdefs
import Derived.WalkSpells
import Derived.WalkLawsBesides
import Derived.Lib.Hide
import Derived.Handy
namespace Go.Proofs.YtkjecjehphgpjaaGreat.W
open Go.RowKit
set_option linter.unusedVariables false

set_option maxHeartbeats 800000 in
theorem rplus_any (a b c d : Int) (h0 : 0 ≤ a) (h1 : a < 18446744073709551616) (h2 : 0 ≤ b) (h3 : b < 18446744073709551616) (h4 : 0 ≤ c) (h5 : c < 18446744073709551616) (h6 : 0 ≤ d) (h7 : d < 18446744073709551616) (w : World) :
    Calls Tryz.prog 53 #[.int .u64 a, .int .u64 b, .int .u64 c, .int .u64 d] w fun e w' => e = .returned (.tuple #[.int .u64 (plusH a b c d), .int .u64 (plusL b d), .bool (plusM a b c d)]) ∧ w = w' := by
  go_enter Tryz.func53, Tryz.ntmps53
  go_wp2
  all_goals simp only [IntKind.wrap_u64] at *
  all_goals go_ret3
  all_goals exact ⟨ret3 (by unfold plusH; omega) (by unfold plusL; omega) (by unfold plusM; rw [Bool.eq_iff_iff]; simp; omega), rfl⟩
end Go.Proofs.YtkjecjehphgpjaaGreat.W
