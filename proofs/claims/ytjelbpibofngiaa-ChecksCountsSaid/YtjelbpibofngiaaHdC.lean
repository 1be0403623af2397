/- The document's own answers of layer 5, walked: headers. -/
import Derived.Test.YtjelbpibofngiaaHdB
import Derived.Test.YtjelbpibofngiaaHdR
import Derived.Lib.QuietBelow
import Derived.BigQuiet
namespace Go.Proofs.Ytjelbpibofngiaa.W
open Go.RowKit Go.Sort
set_option linter.unusedVariables false
set_option linter.unusedSimpArgs false
def Hd.encS (h : Hd) : List UInt8 := if h.may then h.enc else []
def Hd.encE (h : Hd) : Int := if h.may then 0 else 1
end Go.Proofs.Ytjelbpibofngiaa.W
