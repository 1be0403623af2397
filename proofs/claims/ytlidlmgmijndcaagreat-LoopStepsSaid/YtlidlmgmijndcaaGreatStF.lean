/- The document's own answers of layer 10, walked: what is checked. -/
import Derived.Test.YtlidlmgmijndcaaGreatStE
import Derived.Test.YtlidlmgmijndcaaGreatFyD
import Derived.Test.YtlidlmgmijndcaaGreatQtB
namespace Go.Proofs.YtlidlmgmijndcaaGreat.W
open Go.RowKit Go.Sort
set_option linter.unusedVariables false
set_option linter.unusedSimpArgs false
/-- What was set. -/
structure Pm where
  step : Int
  watch : Int
  panic : Int
  maxrate : Int
  phi : Int
  maxdist : Int
  gate : Int
  minpoll : Int
  maxpoll : Int
  burst : Int
  minsane : Int
  minleft : Int
def Pm.val (p : Pm) : Value := .agg #[.int .i64 p.step, .int .i64 p.watch, .int .i64 p.panic, .int .i64 p.maxrate, .int .i64 p.phi, .int .i64 p.maxdist, .int .i64 p.gate, .int .i64 p.minpoll, .int .i64 p.maxpoll, .int .i64 p.burst, .int .i64 p.minsane, .int .i64 p.minleft]
def zeroP : Pm := ⟨0, 0, 0, 0, 0, 0, 0, 0, 0, 0, 0, 0⟩
def setP (c : Cf) : Pm := ⟨ofV c.step, ofV c.watch, ofV c.panic, ofV c.maxrate, ofV c.phi, ofV c.maxdist, ofV c.gate, c.minpoll, c.maxpoll, c.burst, c.minsane, c.minleft⟩
def chkN (c : Cf) : Int := (upTo c 12).headD 0
def chkE (c : Cf) : Int := if upTo c 12 = [] then 0 else fieldE c ((upTo c 12).headD 0).toNat
def chkP (c : Cf) : Pm := if upTo c 12 = [] then setP c else zeroP
theorem twelve_frozen {w : World} {p : Nat} {a0 a1 a2 a3 a4 a5 a6 a7 a8 a9 a10 a11 : Value} {t : TypeId} (h : w.heap[p]? = some (.cells #[a0, a1, a2, a3, a4, a5, a6, a7, a8, a9, a10, a11] t (0, 0))) (j : Nat) : w.frozen? ⟨p, j, none⟩ = false := by
  simp [World.frozen?, h]
/-- Twelve cells, written. -/
def put12 (w : World) (b : Nat) (a0 a1 a2 a3 a4 a5 a6 a7 a8 a9 a10 a11 : Value) : World :=
  ((((((((((((w.setCell ⟨b, 0, none⟩ a0).setCell ⟨b, 1, none⟩ a1).setCell ⟨b, 2, none⟩ a2).setCell ⟨b, 3, none⟩ a3).setCell ⟨b, 4, none⟩ a4).setCell ⟨b, 5, none⟩ a5).setCell ⟨b, 6, none⟩ a6).setCell ⟨b, 7, none⟩ a7).setCell ⟨b, 8, none⟩ a8).setCell ⟨b, 9, none⟩ a9).setCell ⟨b, 10, none⟩ a10).setCell ⟨b, 11, none⟩ a11)
set_option maxRecDepth 100000 in
set_option maxHeartbeats 1600000 in
theorem put12_at {w : World} {p : Nat} {b0 b1 b2 b3 b4 b5 b6 b7 b8 b9 b10 b11 : Value} {t : TypeId} (a0 a1 a2 a3 a4 a5 a6 a7 a8 a9 a10 a11 : Value) (h : w.heap[p]? = some (.cells #[b0, b1, b2, b3, b4, b5, b6, b7, b8, b9, b10, b11] t (0, 0))) :
    (put12 w p a0 a1 a2 a3 a4 a5 a6 a7 a8 a9 a10 a11).heap[p]? = some (.cells #[a0, a1, a2, a3, a4, a5, a6, a7, a8, a9, a10, a11] t (0, 0)) := by
  have h0 : (w.setCell ⟨p, 0, none⟩ a0).heap[p]? = some (.cells #[a0, b1, b2, b3, b4, b5, b6, b7, b8, b9, b10, b11] t (0, 0)) := block_set 0 a0 h
  have h1 : ((w.setCell ⟨p, 0, none⟩ a0).setCell ⟨p, 1, none⟩ a1).heap[p]? = some (.cells #[a0, a1, b2, b3, b4, b5, b6, b7, b8, b9, b10, b11] t (0, 0)) := block_set 1 a1 h0
  have h2 : (((w.setCell ⟨p, 0, none⟩ a0).setCell ⟨p, 1, none⟩ a1).setCell ⟨p, 2, none⟩ a2).heap[p]? = some (.cells #[a0, a1, a2, b3, b4, b5, b6, b7, b8, b9, b10, b11] t (0, 0)) := block_set 2 a2 h1
  have h3 : ((((w.setCell ⟨p, 0, none⟩ a0).setCell ⟨p, 1, none⟩ a1).setCell ⟨p, 2, none⟩ a2).setCell ⟨p, 3, none⟩ a3).heap[p]? = some (.cells #[a0, a1, a2, a3, b4, b5, b6, b7, b8, b9, b10, b11] t (0, 0)) := block_set 3 a3 h2
  have h4 : (((((w.setCell ⟨p, 0, none⟩ a0).setCell ⟨p, 1, none⟩ a1).setCell ⟨p, 2, none⟩ a2).setCell ⟨p, 3, none⟩ a3).setCell ⟨p, 4, none⟩ a4).heap[p]? = some (.cells #[a0, a1, a2, a3, a4, b5, b6, b7, b8, b9, b10, b11] t (0, 0)) := block_set 4 a4 h3
  have h5 : ((((((w.setCell ⟨p, 0, none⟩ a0).setCell ⟨p, 1, none⟩ a1).setCell ⟨p, 2, none⟩ a2).setCell ⟨p, 3, none⟩ a3).setCell ⟨p, 4, none⟩ a4).setCell ⟨p, 5, none⟩ a5).heap[p]? = some (.cells #[a0, a1, a2, a3, a4, a5, b6, b7, b8, b9, b10, b11] t (0, 0)) := block_set 5 a5 h4
  have h6 : (((((((w.setCell ⟨p, 0, none⟩ a0).setCell ⟨p, 1, none⟩ a1).setCell ⟨p, 2, none⟩ a2).setCell ⟨p, 3, none⟩ a3).setCell ⟨p, 4, none⟩ a4).setCell ⟨p, 5, none⟩ a5).setCell ⟨p, 6, none⟩ a6).heap[p]? = some (.cells #[a0, a1, a2, a3, a4, a5, a6, b7, b8, b9, b10, b11] t (0, 0)) := block_set 6 a6 h5
  have h7 : ((((((((w.setCell ⟨p, 0, none⟩ a0).setCell ⟨p, 1, none⟩ a1).setCell ⟨p, 2, none⟩ a2).setCell ⟨p, 3, none⟩ a3).setCell ⟨p, 4, none⟩ a4).setCell ⟨p, 5, none⟩ a5).setCell ⟨p, 6, none⟩ a6).setCell ⟨p, 7, none⟩ a7).heap[p]? = some (.cells #[a0, a1, a2, a3, a4, a5, a6, a7, b8, b9, b10, b11] t (0, 0)) := block_set 7 a7 h6
  have h8 : (((((((((w.setCell ⟨p, 0, none⟩ a0).setCell ⟨p, 1, none⟩ a1).setCell ⟨p, 2, none⟩ a2).setCell ⟨p, 3, none⟩ a3).setCell ⟨p, 4, none⟩ a4).setCell ⟨p, 5, none⟩ a5).setCell ⟨p, 6, none⟩ a6).setCell ⟨p, 7, none⟩ a7).setCell ⟨p, 8, none⟩ a8).heap[p]? = some (.cells #[a0, a1, a2, a3, a4, a5, a6, a7, a8, b9, b10, b11] t (0, 0)) := block_set 8 a8 h7
  have h9 : ((((((((((w.setCell ⟨p, 0, none⟩ a0).setCell ⟨p, 1, none⟩ a1).setCell ⟨p, 2, none⟩ a2).setCell ⟨p, 3, none⟩ a3).setCell ⟨p, 4, none⟩ a4).setCell ⟨p, 5, none⟩ a5).setCell ⟨p, 6, none⟩ a6).setCell ⟨p, 7, none⟩ a7).setCell ⟨p, 8, none⟩ a8).setCell ⟨p, 9, none⟩ a9).heap[p]? = some (.cells #[a0, a1, a2, a3, a4, a5, a6, a7, a8, a9, b10, b11] t (0, 0)) := block_set 9 a9 h8
  have h10 : (((((((((((w.setCell ⟨p, 0, none⟩ a0).setCell ⟨p, 1, none⟩ a1).setCell ⟨p, 2, none⟩ a2).setCell ⟨p, 3, none⟩ a3).setCell ⟨p, 4, none⟩ a4).setCell ⟨p, 5, none⟩ a5).setCell ⟨p, 6, none⟩ a6).setCell ⟨p, 7, none⟩ a7).setCell ⟨p, 8, none⟩ a8).setCell ⟨p, 9, none⟩ a9).setCell ⟨p, 10, none⟩ a10).heap[p]? = some (.cells #[a0, a1, a2, a3, a4, a5, a6, a7, a8, a9, a10, b11] t (0, 0)) := block_set 10 a10 h9
  have h11 : ((((((((((((w.setCell ⟨p, 0, none⟩ a0).setCell ⟨p, 1, none⟩ a1).setCell ⟨p, 2, none⟩ a2).setCell ⟨p, 3, none⟩ a3).setCell ⟨p, 4, none⟩ a4).setCell ⟨p, 5, none⟩ a5).setCell ⟨p, 6, none⟩ a6).setCell ⟨p, 7, none⟩ a7).setCell ⟨p, 8, none⟩ a8).setCell ⟨p, 9, none⟩ a9).setCell ⟨p, 10, none⟩ a10).setCell ⟨p, 11, none⟩ a11).heap[p]? = some (.cells #[a0, a1, a2, a3, a4, a5, a6, a7, a8, a9, a10, a11] t (0, 0)) := block_set 11 a11 h10
  exact h11
theorem quiet_world10 {w w' : World} (h : ∃ p : Regrown, w' = grow (redrawn w p.d) p.os) : Below w.heap.size w w' := by
  obtain ⟨p, rfl⟩ := h
  exact below_regrown w p.d p.os
theorem put12_below {w0 w : World} {p : Nat} (a0 a1 a2 a3 a4 a5 a6 a7 a8 a9 a10 a11 : Value) (h : Below w0.heap.size w0 w) (hp : w0.heap.size ≤ p) : Below w0.heap.size w0 (put12 w p a0 a1 a2 a3 a4 a5 a6 a7 a8 a9 a10 a11) := by
  unfold put12
  exact (((((((((((h.setCell hp a0).setCell hp a1).setCell hp a2).setCell hp a3).setCell hp a4).setCell hp a5).setCell hp a6).setCell hp a7).setCell hp a8).setCell hp a9).setCell hp a10).setCell hp a11
end Go.Proofs.YtlidlmgmijndcaaGreat.W
