/- The document's own answers of layer 5, walked: bytes of numbers and back. -/
import Derived.Test.YtjelbpibofngiaaRows
import Derived.Test.YtjelbpibofngiaaWdefs
import Derived.Test.YtjelbpibofngiaaHdB
import Derived.WalkKit
import Derived.WalkSpells
import Derived.WalkLawsBesides
import Derived.Lib.Hide
import Derived.Lib.Zigzag
import Derived.Handy
namespace Go.Proofs.Ytjelbpibofngiaa.W
open Go.RowKit
set_option linter.unusedVariables false
set_option linter.unusedSimpArgs false
attribute [go_sem] bs_size bs_append be_length
end Go.Proofs.Ytjelbpibofngiaa.W
