/- Rows of numbers that came in, as slices that are read; the bounds of small numbers. -/
import Derived.Test.YtfanijdemephoaaRows
import Derived.Test.YtfanijdemephoaaWdefs
import Derived.Test.YtfanijdemephoaaSlA
import Derived.OpenShut
import Derived.ChangeOld
import Derived.Lib.Hide
import Derived.WalkKit
import Derived.WalkSpells
import Derived.WalkLawsBesides
import Derived.Handy
import Derived.Laws.Bits64b
import Derived.IntWalk
import Derived.BigQuiet
import Derived.Deep.QuietTactic
import Derived.Deep.DeepCutAuto
import Derived.Deep.RegionWith
import Derived.OneCell
import Derived.Lib.Zigzag
namespace Go.Proofs.Ytfanijdemephoaa.W
open Go.RowKit Go.Sort Go.ChangeShapes Go.WideShapes
set_option linter.unusedVariables false
set_option linter.unusedSimpArgs false
def oneE (k : IntKind) (y : Int) : List Value := [.int k y]
theorem u8_bounds {a : Int} (h : (Lit.int .u8 a).wf = true) : 0 ≤ a ∧ a ≤ 255 := by have := bounds_u8 h; omega
end Go.Proofs.Ytfanijdemephoaa.W
