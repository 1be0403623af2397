/- Rows of numbers that came in, as slices that are read; the bounds of small numbers. -/
import Derived.Test.YtlidlmgmijndcaaGreatFixD
import Derived.Test.YtlidlmgmijndcaaGreatWideA
import Derived.Test.YtlidlmgmijndcaaGreatSlA
import Derived.OpenShut
import Derived.ChangeOld
import Derived.Lib.Hide
import Derived.OneCell
import Derived.Lib.Zigzag
namespace Go.Proofs.YtlidlmgmijndcaaGreat.W
open Go.RowKit Go.Sort Go.ChangeShapes Go.WideShapes
set_option linter.unusedVariables false
set_option linter.unusedSimpArgs false
theorem u8_bounds {a : Int} (h : (Lit.int .u8 a).wf = true) : 0 ≤ a ∧ a ≤ 255 := by have := bounds_u8 h; omega
theorem u16_bounds {a : Int} (h : (Lit.int .u16 a).wf = true) : 0 ≤ a ∧ a ≤ 65535 := by have := bounds_u16 h; omega
theorem u32_bounds {a : Int} (h : (Lit.int .u32 a).wf = true) : 0 ≤ a ∧ a < 4294967296 := by have := bounds_u32 h; omega
end Go.Proofs.YtlidlmgmijndcaaGreat.W
