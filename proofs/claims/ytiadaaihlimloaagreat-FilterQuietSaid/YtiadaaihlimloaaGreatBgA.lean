/- A struct of many cells as one row that nobody opens: reads and writes of it whole. No program in it. -/
import Derived.Test.YtiadaaihlimloaaGreatSlA
import Derived.WalkKit
import Derived.Below
import Derived.Laws.CopyOwn
namespace Go.Proofs.YtiadaaihlimloaaGreat.W
open Go.RowKit
set_option linter.unusedVariables false
/-- The cells of a block that nothing froze. -/
def rowOf (w : World) (b : Nat) : Array Value :=
  match w.heap[b]? with
  | some (.cells C _ (0, 0)) => C
  | _ => #[]
theorem rowOf_heap {w : World} {b : Nat} {C : Array Value} {t : TypeId} (h : w.heap[b]? = some (.cells C t (0, 0))) : rowOf w b = C := by
  unfold rowOf
  rw [h]
  rfl
theorem heap_rowOf {w : World} {b n : Nat} (h : (rowOf w b).size = n) (hn : 0 < n) : ∃ t, w.heap[b]? = some (.cells (rowOf w b) t (0, 0)) := by
  unfold rowOf at *
  split at h
  · rename_i C t he
    exact ⟨t, he⟩
  · simp at h
    omega
theorem load_big {P : Program} {T : TypeId} {d : TypeDesc} (hu : P.underlying T = some d) (hd : (match d with | .struct _ | .array _ _ => true | _ => false) = true) {n : Nat} (hi : (P.info? T).map (·.size) = some n) (hn : 0 < n) (w : World) (b : Nat) (h : (rowOf w b).size = n) :
    (Instr.loadAt T (.pointer (some ⟨b, 0, none⟩))).run P w = .ok (.agg (rowOf w b)) w := by
  obtain ⟨t, he⟩ := heap_rowOf h hn
  have := run_loadVar_row (P := P) w b t T (rowOf w b) (0, 0) d he hu hd (by rw [hi, h])
  simp only [Instr.loadAt, Instr.sureAddr, Sem.run_bind, Sem.run_pure, Result.andThen_ok, this]
theorem store_big {P : Program} {T : TypeId} {n : Nat} (hi : (P.info? T).map (·.size) = some n) (hn : 0 < n) (w : World) (b : Nat) (C : Array Value) (h : (rowOf w b).size = n) (hC : C.size = n) (h1 : C.all (·.oneCell') = true) :
    (Instr.storeAt T (.pointer (some ⟨b, 0, none⟩)) (.agg C)).run P w = .ok () (w.setRow b C) := by
  obtain ⟨t, he⟩ := heap_rowOf h hn
  have := run_storeVar_row (P := P) w b t T (rowOf w b) C he (by rw [hi, hC]) (by rw [h, hC]) h1
  simp only [Instr.storeAt, Instr.sureAddr, Sem.run_bind, Sem.run_pure, Result.andThen_ok, this]
theorem rowOf_new (w : World) (C : Array Value) (t : TypeId) : rowOf (w.alloc (.cells C t)) w.heap.size = C := rowOf_heap (heap_alloc_new w (.cells C t))
theorem rowOf_drew (w : World) (b : Nat) : rowOf w.drew b = rowOf w b := rfl
theorem rowOf_set {w : World} {b n : Nat} (C : Array Value) (h : (rowOf w b).size = n) (hn : 0 < n) : rowOf (w.setRow b C) b = C := by
  obtain ⟨t, he⟩ := heap_rowOf h hn
  exact rowOf_heap (setRow_heap w b _ C t _ he)
theorem rowOf_far {w : World} {b k : Nat} (C : Array Value) (h : k ≠ b) : rowOf (w.setRow b C) k = rowOf w k := by
  unfold rowOf
  rw [setRow_other w b k C h]
theorem rowOf_kept {w w' : World} {b n : Nat} (h : (rowOf w b).size = n) (hn : 0 < n) (g : Below w.heap.size w w') : rowOf w' b = rowOf w b := by
  obtain ⟨t, he⟩ := heap_rowOf h hn
  exact rowOf_heap ((g.block _ (Array.getElem?_eq_some_iff.1 he).1).trans he)
theorem setRow_new (w : World) (C D : Array Value) (t : TypeId) : (w.alloc (.cells C t)).setRow w.heap.size D = w.alloc (.cells D t) := by
  have hh : (w.heap.push (.cells C t)).modify w.heap.size (fun | .cells _ elem frozen => .cells D elem frozen | o => o) = w.heap.push (.cells D t) := by
    apply Array.ext_getElem?
    intro i
    rw [Array.getElem?_modify, Array.getElem?_push, Array.getElem?_push]
    by_cases h : i = w.heap.size
    · subst h
      simp
    · rw [if_neg (fun e => h e.symm), if_neg h, if_neg h]
  show World.mk _ _ _ _ _ = World.mk _ _ _ _ _
  congr 1
theorem row_cell {w : World} {b n : Nat} (h : (rowOf w b).size = n) (hn : 0 < n) (j : Nat) : w.cell? ⟨b, j, none⟩ = (rowOf w b)[j]? := by
  obtain ⟨t, he⟩ := heap_rowOf h hn
  simp [World.cell?, he]
end Go.Proofs.YtiadaaihlimloaaGreat.W
