/- A region that draws its order: reads and quiet calls, ONE ALLOCATION that waits for nothing (a variable that is declared), and a tail that comes last: one walk in the order of the text; the allocation may come up anywhere. No program in it. -/
import Derived.StillTail
import Derived.Deep.Quiet
import Derived.Lib.QuietBelow
namespace Go.Proofs.Ytkbjmcgnjhpkiaa.W
open Go.RowKit Go.Sort
set_option linter.unusedVariables false
section
variable {P : Program} {ops : Array Oper} {w0 : World} {m : Nat}
/-- In every world behind w0 the operation yields x, and leaves a world behind that one. -/
def oneR (P : Program) (w0 : World) (o : Oper) (x : Value) (a : Act) : Prop :=
  ∀ p : Regrown, o.quietAt P a (fun w'' => ∃ q : Regrown, w'' = grow (redrawn (grow (redrawn w0 p.d) p.os) q.d) q.os) (grow (redrawn w0 p.d) p.os) x
attribute [go_sem] oneR
theorem kept {v v' : World} {k : Nat} {c : Obj} (h : v.heap[k]? = some c) (b : Below v.heap.size v v') : v'.heap[k]? = some c := (b.block _ (Array.getElem?_eq_some_iff.1 h).1).trans h
theorem laid {v : World} {k : Nat} {c : Obj} (ob : Obj) (h : v.heap[k]? = some c) : (v.alloc ob).heap[k]? = some c := kept h ((Below.refl _ _).alloc (Nat.le_refl _) ob)
end
end Go.Proofs.Ytkbjmcgnjhpkiaa.W
