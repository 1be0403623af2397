/- Rows of numbers that came in, as slices that are read; the bounds of small numbers. -/
import Derived.Test.YtlpcoaohgcgkiaaGreatFixD
import Derived.Test.YtlpcoaohgcgkiaaGreatFixH
import Derived.Test.YtlpcoaohgcgkiaaGreatSlA
import Derived.OpenShut
import Derived.ChangeOld
import Derived.Lib.Hide
namespace Go.Proofs.YtlpcoaohgcgkiaaGreat.W
open Go.RowKit Go.Sort Go.ChangeShapes Go.WideShapes
set_option linter.unusedVariables false
set_option linter.unusedSimpArgs false
theorem u32_bounds {a : Int} (h : (Lit.int .u32 a).wf = true) : 0 ≤ a ∧ a < 4294967296 := by have := bounds_u32 h; omega
end Go.Proofs.YtlpcoaohgcgkiaaGreat.W
