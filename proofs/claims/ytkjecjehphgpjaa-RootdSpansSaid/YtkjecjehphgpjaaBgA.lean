/- A struct of many cells as one row that nobody opens: reads and writes of it whole. No program in it. -/
import Derived.Test.YtkjecjehphgpjaaSlA
import Derived.WalkKit
import Derived.Below
import Derived.Laws.CopyOwn
namespace Go.Proofs.Ytkjecjehphgpjaa.W
open Go.RowKit
set_option linter.unusedVariables false
/-- The cells of a block that nothing froze. -/
def rowOf (w : World) (b : Nat) : Array Value :=
  match w.heap[b]? with
  | some (.cells C _ (0, 0)) => C
  | _ => #[]
theorem rowOf_heap {w : World} {b : Nat} {C : Array Value} {t : TypeId} (h : w.heap[b]? = some (.cells C t (0, 0))) : rowOf w b = C := by
  unfold rowOf
  rw [h]
  rfl
theorem heap_rowOf {w : World} {b n : Nat} (h : (rowOf w b).size = n) (hn : 0 < n) : ∃ t, w.heap[b]? = some (.cells (rowOf w b) t (0, 0)) := by
  unfold rowOf at *
  split at h
  · rename_i C t he
    exact ⟨t, he⟩
  · simp at h
    omega
theorem store_big {P : Program} {T : TypeId} {n : Nat} (hi : (P.info? T).map (·.size) = some n) (hn : 0 < n) (w : World) (b : Nat) (C : Array Value) (h : (rowOf w b).size = n) (hC : C.size = n) (h1 : C.all (·.oneCell') = true) :
    (Instr.storeAt T (.pointer (some ⟨b, 0, none⟩)) (.agg C)).run P w = .ok () (w.setRow b C) := by
  obtain ⟨t, he⟩ := heap_rowOf h hn
  have := run_storeVar_row (P := P) w b t T (rowOf w b) C he (by rw [hi, hC]) (by rw [h, hC]) h1
  simp only [Instr.storeAt, Instr.sureAddr, Sem.run_bind, Sem.run_pure, Result.andThen_ok, this]
theorem rowOf_new (w : World) (C : Array Value) (t : TypeId) : rowOf (w.alloc (.cells C t)) w.heap.size = C := rowOf_heap (heap_alloc_new w (.cells C t))
theorem rowOf_drew (w : World) (b : Nat) : rowOf w.drew b = rowOf w b := rfl
theorem rowOf_far {w : World} {b k : Nat} (C : Array Value) (h : k ≠ b) : rowOf (w.setRow b C) k = rowOf w k := by
  unfold rowOf
  rw [setRow_other w b k C h]
end Go.Proofs.Ytkjecjehphgpjaa.W
