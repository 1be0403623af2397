/- The document's own answers of layer 10, walked: what is checked. -/
import Derived.Test.YtjelbpibofngiaaStE
import Derived.Test.YtjelbpibofngiaaFyD
import Derived.Test.YtjelbpibofngiaaQtB
namespace Go.Proofs.Ytjelbpibofngiaa.W
open Go.RowKit Go.Sort
set_option linter.unusedVariables false
set_option linter.unusedSimpArgs false
/-- What was set. -/
structure Pm where
  step : Int
  watch : Int
  panic : Int
  maxrate : Int
  phi : Int
  maxdist : Int
  gate : Int
  minpoll : Int
  maxpoll : Int
  burst : Int
  minsane : Int
  minleft : Int
def Pm.val (p : Pm) : Value := .agg #[.int .i64 p.step, .int .i64 p.watch, .int .i64 p.panic, .int .i64 p.maxrate, .int .i64 p.phi, .int .i64 p.maxdist, .int .i64 p.gate, .int .i64 p.minpoll, .int .i64 p.maxpoll, .int .i64 p.burst, .int .i64 p.minsane, .int .i64 p.minleft]
def zeroP : Pm := ⟨0, 0, 0, 0, 0, 0, 0, 0, 0, 0, 0, 0⟩
def setP (c : Cf) : Pm := ⟨ofV c.step, ofV c.watch, ofV c.panic, ofV c.maxrate, ofV c.phi, ofV c.maxdist, ofV c.gate, c.minpoll, c.maxpoll, c.burst, c.minsane, c.minleft⟩
def chkN (c : Cf) : Int := (upTo c 12).headD 0
def chkE (c : Cf) : Int := if upTo c 12 = [] then 0 else fieldE c ((upTo c 12).headD 0).toNat
def chkP (c : Cf) : Pm := if upTo c 12 = [] then setP c else zeroP
theorem quiet_world10 {w w' : World} (h : ∃ p : Regrown, w' = grow (redrawn w p.d) p.os) : Below w.heap.size w w' := by
  obtain ⟨p, rfl⟩ := h
  exact below_regrown w p.d p.os
end Go.Proofs.Ytjelbpibofngiaa.W
