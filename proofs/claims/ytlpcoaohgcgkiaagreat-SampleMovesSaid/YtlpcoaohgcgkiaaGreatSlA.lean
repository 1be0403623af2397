/- Slices of whatever elements, as they are read; worlds in which few blocks were touched. No program in it. -/
import Derived.WalkKit
import Derived.Below
import Derived.OwnWalk
import Derived.Deep.Slices
import Derived.Lib.SmallJoins
namespace Go.Proofs.YtlpcoaohgcgkiaaGreat.W
open Go.RowKit
set_option linter.unusedVariables false
theorem block_set {w : World} {b : Nat} {C : Array Value} {t : TypeId} {f : Nat × Nat} (j : Nat) (x : Value) (h : w.heap[b]? = some (.cells C t f)) : (w.setCell ⟨b, j, none⟩ x).heap[b]? = some (.cells (C.setIfInBounds j x) t f) := by
  have hlt := (Array.getElem?_eq_some_iff.1 h).1
  have h' : w.heap[b] = .cells C t f := by simpa [Array.getElem?_eq_getElem hlt] using h
  show (w.heap.modify b _)[b]? = _
  rw [Array.getElem?_eq_getElem (by simpa using hlt), Array.getElem_modify_self, h']
  rfl
theorem block_far {w : World} {b k : Nat} (j : Nat) (x : Value) (hk : k ≠ b) : (w.setCell ⟨b, j, none⟩ x).heap[k]? = w.heap[k]? := Below.heap_setCell _ _ _ k hk
theorem set_size (w : World) (p : Addr) (x : Value) : (w.setCell p x).heap.size = w.heap.size := by simp [World.setCell]
end Go.Proofs.YtlpcoaohgcgkiaaGreat.W
