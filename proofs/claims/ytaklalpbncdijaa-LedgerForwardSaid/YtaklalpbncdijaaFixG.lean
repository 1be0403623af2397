/- Means, walked: a sum of 128 bits, and the two closures over it. -/
import Derived.Test.YtaklalpbncdijaaFixC
import Derived.Test.YtaklalpbncdijaaWideA
import Derived.OneCell
import Derived.Lib.Zigzag
import Derived.Lib.Hide
namespace Go.Proofs.Ytaklalpbncdijaa.W
open Go.RowKit
set_option linter.unusedVariables false
set_option linter.unusedSimpArgs false
theorem heap_alloc_new' (w : World) (o : Obj) {k : Nat} (h : k = w.heap.size) : (w.alloc o).heap[k]? = some o := by
  subst h
  show (w.heap.push o)[w.heap.size]? = _
  simp
/-- A block of two cells. -/
theorem cell_of_two {w : World} {b : Nat} {u v : Value} {t : TypeId} (h : w.heap[b]? = some (.cells #[u, v] t (0, 0))) : w.cell? ⟨b, 0, none⟩ = some u ∧ w.cell? ⟨b, 1, none⟩ = some v := by simp [World.cell?, h]
end Go.Proofs.Ytaklalpbncdijaa.W
