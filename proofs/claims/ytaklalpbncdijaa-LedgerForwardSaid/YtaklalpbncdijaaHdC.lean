/- The document's own answers of layer 5, walked: headers. -/
import Derived.Test.YtaklalpbncdijaaHdB
import Derived.Test.YtaklalpbncdijaaHdR
import Derived.Lib.QuietBelow
import Derived.BigQuiet
namespace Go.Proofs.Ytaklalpbncdijaa.W
open Go.RowKit Go.Sort
set_option linter.unusedVariables false
set_option linter.unusedSimpArgs false
theorem quiet_world {w w' : World} (h : ∃ p : Regrown, w' = grow (redrawn w p.d) p.os) : Below w.heap.size w w' := by
  obtain ⟨p, rfl⟩ := h
  exact below_regrown w p.d p.os
end Go.Proofs.Ytaklalpbncdijaa.W
