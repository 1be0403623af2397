/- Layer 5's own code, walked: how many bytes a number has; numbers put behind bytes. -/
import Derived.Test.YtkjecjehphgpjaaGreatRows
import Derived.Test.YtkjecjehphgpjaaGreatWdefs
import Derived.Test.YtkjecjehphgpjaaGreatHdZ
import Derived.WalkKit
import Derived.WalkSpells
import Derived.WalkLawsBesides
import Derived.Lib.Hide
import Derived.Lib.Zigzag
import Derived.Handy
import Derived.OwnWalk

namespace Go.Proofs.YtkjecjehphgpjaaGreat.W
open Go.RowKit
set_option linter.unusedVariables false
set_option linter.unusedSimpArgs false
/-- Bytes as a row of cells. -/
def bc (l : List UInt8) : List Value := l.map fun b => .int .u8 (b.toNat : Int)
end Go.Proofs.YtkjecjehphgpjaaGreat.W
