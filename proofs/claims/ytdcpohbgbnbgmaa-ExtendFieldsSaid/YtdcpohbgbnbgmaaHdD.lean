/- The document's own answer for a header's bytes, walked. -/
import Derived.Test.YtdcpohbgbnbgmaaHdI
import Derived.Lib.QuietBelow
import Derived.BigQuiet
import Derived.Deep.DeepCutAuto
import Derived.Deep.RegionHeld3
namespace Go.Proofs.Ytdcpohbgbnbgmaa.W
open Go.RowKit Go.Sort
set_option linter.unusedVariables false
set_option linter.unusedSimpArgs false
theorem blk_at {w : World} {b : Nat} {C : Array Value} {t : TypeId} (h : w.heap[b]? = some (.cells C t (0, 0))) (j : Nat) (hj : j < C.size) : w.cell? ⟨b, j, none⟩ = some C[j] ∧ w.frozen? ⟨b, j, none⟩ = false := by
  simp [World.cell?, World.frozen?, h, hj]
end Go.Proofs.Ytdcpohbgbnbgmaa.W
