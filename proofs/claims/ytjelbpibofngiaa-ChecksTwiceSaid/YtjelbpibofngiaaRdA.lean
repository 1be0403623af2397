/- Layer 11's own code, walked: exponents held, one more of them, what is due, how many were answered. -/
import Derived.Test.YtjelbpibofngiaaRcA
import Derived.Test.YtjelbpibofngiaaStX
import Derived.Test.YtjelbpibofngiaaFixB
import Derived.Test.YtjelbpibofngiaaFixD
import Derived.Test.YtjelbpibofngiaaQtB
import Derived.Test.YtjelbpibofngiaaChecked
import Derived.WalkKit
import Derived.WalkSpells
import Derived.Lib.Hide
import Derived.Handy
namespace Go.Proofs.Ytjelbpibofngiaa.W
open Go.RowKit Go.Sort
set_option linter.unusedVariables false
set_option linter.unusedSimpArgs false
abbrev pmC (p : Pm) : Array Value := #[.int .i64 p.step, .int .i64 p.watch, .int .i64 p.panic, .int .i64 p.maxrate, .int .i64 p.phi, .int .i64 p.maxdist, .int .i64 p.gate, .int .i64 p.minpoll, .int .i64 p.maxpoll, .int .i64 p.burst, .int .i64 p.minsane, .int .i64 p.minleft]
end Go.Proofs.Ytjelbpibofngiaa.W
