import Derived.Test.YtlidlmgmijndcaaGreatRows
import Derived.Test.YtlidlmgmijndcaaGreatWdefs
import Derived.WalkSpells
import Derived.WalkLawsBesides
import Derived.Lib.Hide
import Derived.Handy
namespace Go.Proofs.YtlidlmgmijndcaaGreat.W
open Go.RowKit
set_option linter.unusedVariables false

set_option maxHeartbeats 800000 in
theorem less_any (a b c d : Int) (w : World) :
    Calls Tryz.prog 87 #[.int .u64 a, .int .u64 b, .int .u64 c, .int .u64 d] w fun e w' => e = .returned (.bool (lessB a b c d)) ∧ w = w' := by
  go_enter Tryz.func87, Tryz.ntmps87
  go_wp2
  all_goals go_ret
  all_goals exact ⟨ret1b (by unfold lessB; rw [Bool.eq_iff_iff]; simp; omega), rfl⟩
end Go.Proofs.YtlidlmgmijndcaaGreat.W
