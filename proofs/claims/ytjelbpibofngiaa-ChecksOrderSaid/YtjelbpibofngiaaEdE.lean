/- The document's own answers of layer 6, walked: who says no; how a reference is named. -/
import Derived.Test.YtjelbpibofngiaaHdB
import Derived.Test.YtjelbpibofngiaaHdF
import Derived.WalkKit
namespace Go.Proofs.Ytjelbpibofngiaa.W
open Go.RowKit Go.Sort
set_option linter.unusedVariables false
set_option linter.unusedSimpArgs false
/-- Which code. -/
def kissI (stratum ref : Int) : Int := if stratum = 0 then (if ref = 1145392729 then 1 else if ref = 1381192786 then 2 else if ref = 1380013125 then 3 else 4) else 0
end Go.Proofs.Ytjelbpibofngiaa.W
