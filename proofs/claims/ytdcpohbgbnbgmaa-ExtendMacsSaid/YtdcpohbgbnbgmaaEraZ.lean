/- What the laws of layer 4 call besides: the small case that must go well; bounds of arguments. -/
import Derived.Test.YtdcpohbgbnbgmaaRows
import Derived.Test.YtdcpohbgbnbgmaaWdefs
import Derived.Test.YtdcpohbgbnbgmaaFixZ
import Derived.OpenShut
import Derived.Lib.Hide
import Derived.WalkKit
import Derived.WalkSpells
import Derived.WalkLawsBesides
import Derived.Handy
import Derived.Laws.Bits64b
import Derived.IntWalk
import Derived.BigQuiet
import Derived.Deep.QuietTactic
import Derived.Deep.DeepCutAuto
import Derived.Deep.RegionWith
namespace Go.Proofs.Ytdcpohbgbnbgmaa.W
open Go.RowKit
set_option linter.unusedVariables false
set_option linter.unusedSimpArgs false
theorem u32_bounds {a : Int} (h : (Lit.int .u32 a).wf = true) : 0 ≤ a ∧ a < 4294967296 := by
  have := bounds_u32 h; omega
end Go.Proofs.Ytdcpohbgbnbgmaa.W
