/- What the laws of layer 2 call besides: the small case that must go well; bounds of arguments. -/
import Derived.Test.YtdcpohbgbnbgmaaRows
import Derived.Test.YtdcpohbgbnbgmaaWdefs
import Derived.OpenShut
import Derived.Lib.Hide
import Derived.WalkKit
import Derived.WalkSpells
import Derived.WalkLawsBesides
import Derived.Handy
import Derived.Laws.Bits64b
import Derived.IntWalk
import Derived.BigQuiet
import Derived.Deep.QuietTactic
import Derived.Deep.DeepCutAuto
import Derived.Deep.RegionWith
import Derived.OneCell
import Derived.Lib.Zigzag
namespace Go.Proofs.Ytdcpohbgbnbgmaa.W
open Go.RowKit
set_option linter.unusedVariables false
set_option linter.unusedSimpArgs false
theorem i64_bounds {a : Int} (h : (Lit.int .i64 a).wf = true) : -9223372036854775808 ≤ a ∧ a ≤ 9223372036854775807 := by
  have := bounds_i64 h; omega
end Go.Proofs.Ytdcpohbgbnbgmaa.W
