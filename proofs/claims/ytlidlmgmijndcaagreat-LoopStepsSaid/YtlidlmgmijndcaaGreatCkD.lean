import Derived.Test.YtlidlmgmijndcaaGreatRcA
import Derived.Test.YtlidlmgmijndcaaGreatStX
import Derived.Test.YtlidlmgmijndcaaGreatFixB
import Derived.Test.YtlidlmgmijndcaaGreatFixD
import Derived.Test.YtlidlmgmijndcaaGreatQtB
import Derived.Test.YtlidlmgmijndcaaGreatChecked
import Derived.WalkKit
import Derived.WalkSpells
import Derived.Lib.Hide
import Derived.Handy
import Derived.Test.YtlidlmgmijndcaaGreatHdZ
import Derived.Test.YtlidlmgmijndcaaGreatRows
import Derived.Test.YtlidlmgmijndcaaGreatWdefs
import Derived.Lib.QuietBelow
import Derived.BigQuiet
import Derived.Maps.OwnSet
import Derived.Maps.OwnOps
import Derived.Laws.CopyRow
import Derived.WalkLawsBesides
import Derived.Lib.Zigzag
import Derived.OwnWalk
/- Layer 11's own code, walked: exponents held, one more of them, what is due, how many were answered. -/
namespace Go.Proofs.YtlidlmgmijndcaaGreat.W
open Go.RowKit Go.Sort
set_option linter.unusedVariables false
set_option linter.unusedSimpArgs false
abbrev pmC (p : Pm) : Array Value := #[.int .i64 p.step, .int .i64 p.watch, .int .i64 p.panic, .int .i64 p.maxrate, .int .i64 p.phi, .int .i64 p.maxdist, .int .i64 p.gate, .int .i64 p.minpoll, .int .i64 p.maxpoll, .int .i64 p.burst, .int .i64 p.minsane, .int .i64 p.minleft]
end Go.Proofs.YtlidlmgmijndcaaGreat.W

/- Layer 12's own code, walked: which test a packet fails first, and what is known behind it. -/
namespace Go.Proofs.YtlidlmgmijndcaaGreat.W
open Go.RowKit Go.Sort
set_option linter.unusedVariables false
set_option linter.unusedSimpArgs false
theorem quiet_world12 {w w' : World} (h : ∃ p : Regrown, w' = grow (redrawn w p.d) p.os) : Below w.heap.size w w' := by
  obtain ⟨p, rfl⟩ := h
  exact below_regrown w p.d p.os
end Go.Proofs.YtlidlmgmijndcaaGreat.W

