import Derived.Test.YtlpcoaohgcgkiaaRcA
import Derived.Test.YtlpcoaohgcgkiaaStX
import Derived.Test.YtlpcoaohgcgkiaaFixB
import Derived.Test.YtlpcoaohgcgkiaaFixD
import Derived.Test.YtlpcoaohgcgkiaaQtB
import Derived.Test.YtlpcoaohgcgkiaaChecked
import Derived.WalkKit
import Derived.WalkSpells
import Derived.Lib.Hide
import Derived.Handy
import Derived.Deep.RegionHeld3
import Derived.RegionTactic
import Derived.Laws.CopyOwn
import Derived.Deep.DeepCutAuto
import Derived.Test.YtlpcoaohgcgkiaaEraA
import Derived.Test.YtlpcoaohgcgkiaaHdZ
import Derived.Test.YtlpcoaohgcgkiaaRows
import Derived.Test.YtlpcoaohgcgkiaaWdefs
import Derived.Lib.QuietBelow
import Derived.Maps.OwnSet
import Derived.Maps.OwnOps
import Derived.Laws.CopyRow
import Derived.WalkLawsBesides
import Derived.Lib.Zigzag
import Derived.OwnWalk
/- Layer 11's own code, walked: exponents held, one more of them, what is due, how many were answered. -/
namespace Go.Proofs.Ytlpcoaohgcgkiaa.W
open Go.RowKit Go.Sort
set_option linter.unusedVariables false
set_option linter.unusedSimpArgs false
abbrev pmC (p : Pm) : Array Value := #[.int .i64 p.step, .int .i64 p.watch, .int .i64 p.panic, .int .i64 p.maxrate, .int .i64 p.phi, .int .i64 p.maxdist, .int .i64 p.gate, .int .i64 p.minpoll, .int .i64 p.maxpoll, .int .i64 p.burst, .int .i64 p.minsane, .int .i64 p.minleft]
end Go.Proofs.Ytlpcoaohgcgkiaa.W

/- Layer 11's own code, walked: a state behind one, two, three closures; an answer, a request for fewer questions. -/
namespace Go.Proofs.Ytlpcoaohgcgkiaa.W
open Go.RowKit Go.Sort
set_option linter.unusedVariables false
set_option linter.unusedSimpArgs false
theorem five_in {w : World} {p : Nat} {a0 a1 a2 a3 a4 : Value} {t : TypeId} (h : w.heap[p]? = some (.cells #[a0, a1, a2, a3, a4] t (0, 0))) :
    w.cell? ⟨p, 0, none⟩ = some a0 ∧ w.cell? ⟨p, 1, none⟩ = some a1 ∧ w.cell? ⟨p, 2, none⟩ = some a2 ∧ w.cell? ⟨p, 3, none⟩ = some a3 ∧ w.cell? ⟨p, 4, none⟩ = some a4 := by
  refine ⟨?_, ?_, ?_, ?_, ?_⟩ <;> simp [World.cell?, h]
theorem five_thaw {w : World} {p : Nat} {a0 a1 a2 a3 a4 : Value} {t : TypeId} (h : w.heap[p]? = some (.cells #[a0, a1, a2, a3, a4] t (0, 0))) (j : Nat) : w.frozen? ⟨p, j, none⟩ = false := by
  simp [World.frozen?, h]
/-- Five cells, written. -/
def five (w : World) (b : Nat) (a0 a1 a2 a3 a4 : Value) : World := (((((w.setCell ⟨b, 0, none⟩ a0).setCell ⟨b, 1, none⟩ a1).setCell ⟨b, 2, none⟩ a2).setCell ⟨b, 3, none⟩ a3).setCell ⟨b, 4, none⟩ a4)
theorem five_block {w : World} {p : Nat} {o0 o1 o2 o3 o4 : Value} {t : TypeId} (a0 a1 a2 a3 a4 : Value) (h : w.heap[p]? = some (.cells #[o0, o1, o2, o3, o4] t (0, 0))) : (five w p a0 a1 a2 a3 a4).heap[p]? = some (.cells #[a0, a1, a2, a3, a4] t (0, 0)) :=
  block_set 4 a4 (block_set 3 a3 (block_set 2 a2 (block_set 1 a1 (block_set 0 a0 h))))
theorem five_far {w : World} {p k : Nat} (a0 a1 a2 a3 a4 : Value) (hk : k ≠ p) : (five w p a0 a1 a2 a3 a4).heap[k]? = w.heap[k]? := by
  unfold five
  rw [block_far _ _ hk, block_far _ _ hk, block_far _ _ hk, block_far _ _ hk, block_far _ _ hk]
theorem five_below {w0 w : World} {p : Nat} (a0 a1 a2 a3 a4 : Value) (h : Below w0.heap.size w0 w) (hp : w0.heap.size ≤ p) : Below w0.heap.size w0 (five w p a0 a1 a2 a3 a4) := by
  unfold five
  exact ((((h.setCell hp a0).setCell hp a1).setCell hp a2).setCell hp a3).setCell hp a4
theorem far5 {v : World} {r k : Nat} {x : Option Obj} (a0 a1 a2 a3 a4 : Value) (hk : k ≠ r) (h : v.heap[k]? = x) : (((((v.setCell ⟨r, 0, none⟩ a0).setCell ⟨r, 1, none⟩ a1).setCell ⟨r, 2, none⟩ a2).setCell ⟨r, 3, none⟩ a3).setCell ⟨r, 4, none⟩ a4).heap[k]? = x := (five_far a0 a1 a2 a3 a4 hk).trans h
theorem new5 {v : World} {r : Nat} {o0 o1 o2 o3 o4 : Value} {t : TypeId} (a0 a1 a2 a3 a4 : Value) (h : v.heap[r]? = some (.cells #[o0, o1, o2, o3, o4] t (0, 0))) : (((((v.setCell ⟨r, 0, none⟩ a0).setCell ⟨r, 1, none⟩ a1).setCell ⟨r, 2, none⟩ a2).setCell ⟨r, 3, none⟩ a3).setCell ⟨r, 4, none⟩ a4).heap[r]? = some (.cells #[a0, a1, a2, a3, a4] t (0, 0)) := five_block a0 a1 a2 a3 a4 h
theorem below5 {w0 v : World} {r : Nat} (a0 a1 a2 a3 a4 : Value) (h : Below w0.heap.size w0 v) (hp : w0.heap.size ≤ r) : Below w0.heap.size w0 (((((v.setCell ⟨r, 0, none⟩ a0).setCell ⟨r, 1, none⟩ a1).setCell ⟨r, 2, none⟩ a2).setCell ⟨r, 3, none⟩ a3).setCell ⟨r, 4, none⟩ a4) := five_below a0 a1 a2 a3 a4 h hp
end Go.Proofs.Ytlpcoaohgcgkiaa.W

/- Layer 12's own code, walked: the tests that a packet may fail. -/
namespace Go.Proofs.Ytlpcoaohgcgkiaa.W
open Go.RowKit Go.Sort
set_option linter.unusedVariables false
set_option linter.unusedSimpArgs false
theorem thirteen_in {w : World} {p : Nat} {a0 a1 a2 a3 a4 a5 a6 a7 a8 a9 a10 a11 a12 : Value} {t : TypeId} (h : w.heap[p]? = some (.cells #[a0, a1, a2, a3, a4, a5, a6, a7, a8, a9, a10, a11, a12] t (0, 0))) :
    w.cell? ⟨p, 0, none⟩ = some a0 ∧ w.cell? ⟨p, 1, none⟩ = some a1 ∧ w.cell? ⟨p, 2, none⟩ = some a2 ∧ w.cell? ⟨p, 3, none⟩ = some a3 ∧ w.cell? ⟨p, 4, none⟩ = some a4 ∧ w.cell? ⟨p, 5, none⟩ = some a5 ∧ w.cell? ⟨p, 6, none⟩ = some a6 ∧ w.cell? ⟨p, 7, none⟩ = some a7 ∧ w.cell? ⟨p, 8, none⟩ = some a8 ∧ w.cell? ⟨p, 9, none⟩ = some a9 ∧ w.cell? ⟨p, 10, none⟩ = some a10 ∧ w.cell? ⟨p, 11, none⟩ = some a11 ∧ w.cell? ⟨p, 12, none⟩ = some a12 := by
  refine ⟨?_, ?_, ?_, ?_, ?_, ?_, ?_, ?_, ?_, ?_, ?_, ?_, ?_⟩ <;> simp [World.cell?, h]
end Go.Proofs.Ytlpcoaohgcgkiaa.W

/- Layer 12's own code, walked: which test a packet fails first, and what is known behind it. -/
namespace Go.Proofs.Ytlpcoaohgcgkiaa.W
open Go.RowKit Go.Sort
set_option linter.unusedVariables false
set_option linter.unusedSimpArgs false
theorem quiet_world12 {w w' : World} (h : ∃ p : Regrown, w' = grow (redrawn w p.d) p.os) : Below w.heap.size w w' := by
  obtain ⟨p, rfl⟩ := h
  exact below_regrown w p.d p.os
end Go.Proofs.Ytlpcoaohgcgkiaa.W

