import Derived.Test.YtiadaaihlimloaaGreatRcA
import Derived.Test.YtiadaaihlimloaaGreatStX
import Derived.Test.YtiadaaihlimloaaGreatFixB
import Derived.Test.YtiadaaihlimloaaGreatFixD
import Derived.Test.YtiadaaihlimloaaGreatQtB
import Derived.Test.YtiadaaihlimloaaGreatChecked
import Derived.WalkKit
import Derived.WalkSpells
import Derived.Lib.Hide
import Derived.Handy
import Derived.Deep.RegionHeld3
import Derived.RegionTactic
import Derived.Laws.CopyOwn
import Derived.Deep.DeepCutAuto
import Derived.Test.YtiadaaihlimloaaGreatHdZ
import Derived.Test.YtiadaaihlimloaaGreatRows
import Derived.Test.YtiadaaihlimloaaGreatWdefs
import Derived.Lib.QuietBelow
import Derived.BigQuiet
import Derived.Maps.OwnSet
import Derived.Maps.OwnOps
import Derived.Laws.CopyRow
import Derived.WalkLawsBesides
import Derived.Lib.Zigzag
import Derived.OwnWalk
/- Layer 11's own code, walked: exponents held, one more of them, what is due, how many were answered. -/
namespace Go.Proofs.YtiadaaihlimloaaGreat.W
open Go.RowKit Go.Sort
set_option linter.unusedVariables false
set_option linter.unusedSimpArgs false
abbrev pmC (p : Pm) : Array Value := #[.int .i64 p.step, .int .i64 p.watch, .int .i64 p.panic, .int .i64 p.maxrate, .int .i64 p.phi, .int .i64 p.maxdist, .int .i64 p.gate, .int .i64 p.minpoll, .int .i64 p.maxpoll, .int .i64 p.burst, .int .i64 p.minsane, .int .i64 p.minleft]
end Go.Proofs.YtiadaaihlimloaaGreat.W

/- Layer 11's own code, walked: a state behind one, two, three closures; an answer, a request for fewer questions. -/
namespace Go.Proofs.YtiadaaihlimloaaGreat.W
open Go.RowKit Go.Sort
set_option linter.unusedVariables false
set_option linter.unusedSimpArgs false
theorem five_in {w : World} {p : Nat} {a0 a1 a2 a3 a4 : Value} {t : TypeId} (h : w.heap[p]? = some (.cells #[a0, a1, a2, a3, a4] t (0, 0))) :
    w.cell? ⟨p, 0, none⟩ = some a0 ∧ w.cell? ⟨p, 1, none⟩ = some a1 ∧ w.cell? ⟨p, 2, none⟩ = some a2 ∧ w.cell? ⟨p, 3, none⟩ = some a3 ∧ w.cell? ⟨p, 4, none⟩ = some a4 := by
  refine ⟨?_, ?_, ?_, ?_, ?_⟩ <;> simp [World.cell?, h]
end Go.Proofs.YtiadaaihlimloaaGreat.W

/- Layer 12's own code, walked: which test a packet fails first, and what is known behind it. -/
namespace Go.Proofs.YtiadaaihlimloaaGreat.W
open Go.RowKit Go.Sort
set_option linter.unusedVariables false
set_option linter.unusedSimpArgs false
theorem quiet_world12 {w w' : World} (h : ∃ p : Regrown, w' = grow (redrawn w p.d) p.os) : Below w.heap.size w w' := by
  obtain ⟨p, rfl⟩ := h
  exact below_regrown w p.d p.os
end Go.Proofs.YtiadaaihlimloaaGreat.W

