/- Layer 19 as numbers: what an offset does to the clock. No program in it. -/
import Derived.Test.YtlidlmgmijndcaaGreatRcA
import Derived.Test.YtlidlmgmijndcaaGreatFdefs
namespace Go.Proofs.YtlidlmgmijndcaaGreat.W
open Go.RowKit
set_option linter.unusedVariables false
structure Dc where
  st : Int
  at_ : Int
  off : Int
  freq : Int
  jit : Int
  wan : Int
  rest : Int
def Dc.val (d : Dc) : Value := .agg #[.int .i64 d.st, .int .i64 d.at_, .int .i64 d.off, .int .i64 d.freq, .int .i64 d.jit, .int .i64 d.wan, .int .i64 d.rest]
structure Dc.Typed (d : Dc) : Prop where
  st : -9223372036854775808 ≤ d.st ∧ d.st ≤ 9223372036854775807
  at_ : -9223372036854775808 ≤ d.at_ ∧ d.at_ ≤ 9223372036854775807
  off : -9223372036854775808 ≤ d.off ∧ d.off ≤ 9223372036854775807
  freq : -9223372036854775808 ≤ d.freq ∧ d.freq ≤ 9223372036854775807
  jit : -9223372036854775808 ≤ d.jit ∧ d.jit ≤ 9223372036854775807
  wan : -9223372036854775808 ≤ d.wan ∧ d.wan ≤ 9223372036854775807
  rest : -9223372036854775808 ≤ d.rest ∧ d.rest ≤ 9223372036854775807
def Dc.zero : Dc := ⟨0, 0, 0, 0, 0, 0, 0⟩
theorem Dc.val_inj {x y : Dc} (e : x.val = y.val) : x = y := by
  cases x; cases y
  simp [Dc.val] at e
  simp [e]
def pollL (n : Int) : Int := max 4 (min n 17)
def holdL (p : Pm) (f : Int) : Int := clampI f (subI 0 p.maxrate) p.maxrate
def startL (p : Pm) (f : Int) (known : Bool) : Dc := if known then ⟨1, 0, 0, holdL p f, 0, 0, 0⟩ else Dc.zero
def smoothL (old new : Int) : Int := rootI (addI (mulI old old) (shiftI (subI (mulI new new) (mulI old old)) (-2)))
def powL (n : Int) : Int := shiftI 4294967296 n
def turnL (p : Pm) (d : Dc) (o gone n : Int) : Int :=
  if 8796093022208 < gone then addI (shiftI (mulI o (min gone (powL (pollL n)))) (-(2 * pollL n + 8))) (shiftI (divI (subI o d.off) gone) (-2))
  else shiftI (mulI o (min gone (powL (pollL n)))) (-(2 * pollL n + 8))
def tickL (d : Dc) (n : Int) : Int := shiftI d.rest (-(pollL n + 4))
def tickD (d : Dc) (n : Int) : Dc := { d with rest := subI d.rest (tickL d n) }
/-- A step, a take: what is done to a discipline. -/
def stepL (d : Dc) (at_ st : Int) : Dc := ⟨st, at_, 0, d.freq, d.jit, d.wan, 0⟩
def takeL (d : Dc) (o at_ st : Int) : Dc := ⟨st, at_, o, d.freq, smoothL d.jit (subI o d.off), d.wan, o⟩
/-- What an offset does: the discipline, what is done, by how much, the error. -/
structure Upd where
  d : Dc
  k : Int
  by_ : Int
  e : Int
def goneL19 (d : Dc) (at_ : Int) : Int := max 0 (subI at_ d.at_)
def farL (p : Pm) (d : Dc) (o at_ gone : Int) : Upd :=
  if d.st = 1 then ⟨stepL d at_ 4, 2, o, 0⟩
  else if d.st = 3 ∨ d.st = 4 then ⟨{ d with at_ := at_, st := 2 }, 0, 0, 0⟩
  else if d.st = 2 then (if gone < p.watch then ⟨d, 0, 0, 0⟩ else ⟨stepL d at_ 4, 2, o, 0⟩)
  else ⟨stepL d at_ 3, 2, o, 0⟩
def nearL (p : Pm) (d : Dc) (o at_ gone n : Int) : Upd :=
  if d.st = 1 then ⟨takeL d o at_ 4, 1, o, 0⟩
  else if d.st = 3 then (if gone < p.watch then ⟨d, 0, 0, 0⟩ else ⟨takeL { d with freq := holdL p (addI d.freq (divI o gone)) } o at_ 4, 1, o, 0⟩)
  else if d.st = 2 ∨ d.st = 4 then ⟨takeL { d with freq := holdL p (addI d.freq (turnL p d o gone n)), wan := smoothL d.wan (subI (holdL p (addI d.freq (turnL p d o gone n))) d.freq) } o at_ 4, 1, o, 0⟩
  else ⟨takeL d o at_ 3, 1, o, 0⟩
def updL (p : Pm) (d : Dc) (o at_ n : Int) : Upd :=
  if (1 ≤ d.st ∧ d.st ≤ 4) ∧ p.panic < absI o then ⟨d, 0, 0, 190⟩
  else if p.step < absI o then farL p d o at_ (goneL19 d at_) else nearL p d o at_ (goneL19 d at_) n
-- what is standard
theorem num300 : ofV 4643985272004935680 = 1288490188800 := by
  obtain ⟨k, hk⟩ : ∃ k, 1030 = k := ⟨_, rfl⟩
  rw [ofV_big (k := k) (c := 5277655813324800) (d := 44) (by omega) (by decide) (by decide) (by decide) (by omega)]
  decide
theorem num1000 : ofV 4652007308841189376 = 4294967296000 := by
  obtain ⟨k, hk⟩ : ∃ k, 1031 = k := ⟨_, rfl⟩
  rw [ofV_big (k := k) (c := 8796093022208000) (d := 43) (by omega) (by decide) (by decide) (by decide) (by omega)]
  decide
theorem num0005 : ofV 4557750909289998844 = 2147483 := by
  obtain ⟨k, hk⟩ : ∃ k, 1011 = k := ⟨_, rfl⟩
  rw [ofV_big (k := k) (c := 4611686018427388) (d := 63) (by omega) (by decide) (by decide) (by decide) (by omega)]
  decide
structure StdL (p : Pm) : Prop where
  step : p.step = 536870912
  watch : p.watch = 1288490188800
  panic : p.panic = 4294967296000
  maxrate : p.maxrate = 2147483
theorem std_loop : StdL (chkP stdC) := by
  have e : chkP stdC = setP stdC := by unfold chkP; rw [std_none, if_pos rfl]
  rw [e]
  have h1 : ∀ c : Cf, (setP c).step = ofV c.step := fun c => by
    unfold setP
    simp only []
  have h2 : ∀ c : Cf, (setP c).watch = ofV c.watch := fun c => by
    unfold setP
    simp only []
  have h3 : ∀ c : Cf, (setP c).panic = ofV c.panic := fun c => by
    unfold setP
    simp only []
  have h4 : ∀ c : Cf, (setP c).maxrate = ofV c.maxrate := fun c => by
    unfold setP
    simp only []
  exact ⟨(h1 _).trans num0125, (h2 _).trans num300, (h3 _).trans num1000, (h4 _).trans num0005⟩
end Go.Proofs.YtlidlmgmijndcaaGreat.W
