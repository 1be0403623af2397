/- Layer 10 as words and numbers: what may be set. No program in it. -/
import Derived.Test.YtjelbpibofngiaaFpD
import Derived.Test.YtjelbpibofngiaaFyD
namespace Go.Proofs.Ytjelbpibofngiaa.W
open Go.RowKit
set_option linter.unusedVariables false
/-- A configuration: floating-point numbers by their bits. -/
structure Cf where
  step : Nat
  watch : Nat
  panic : Nat
  maxrate : Nat
  phi : Nat
  maxdist : Nat
  gate : Nat
  minpoll : Int
  maxpoll : Int
  burst : Int
  minsane : Int
  minleft : Int
def Cf.val (c : Cf) : Value := .agg #[.float .f64 c.step, .float .f64 c.watch, .float .f64 c.panic, .float .f64 c.maxrate, .float .f64 c.phi, .float .f64 c.maxdist, .float .f64 c.gate, .int .i64 c.minpoll, .int .i64 c.maxpoll, .int .i64 c.burst, .int .i64 c.minsane, .int .i64 c.minleft]
structure Cf.Typed (c : Cf) : Prop where
  step : c.step < 18446744073709551616
  watch : c.watch < 18446744073709551616
  panic : c.panic < 18446744073709551616
  maxrate : c.maxrate < 18446744073709551616
  phi : c.phi < 18446744073709551616
  maxdist : c.maxdist < 18446744073709551616
  gate : c.gate < 18446744073709551616
  minpoll : -9223372036854775808 ≤ c.minpoll ∧ c.minpoll ≤ 9223372036854775807
  maxpoll : -9223372036854775808 ≤ c.maxpoll ∧ c.maxpoll ≤ 9223372036854775807
  burst : -9223372036854775808 ≤ c.burst ∧ c.burst ≤ 9223372036854775807
  minsane : -9223372036854775808 ≤ c.minsane ∧ c.minsane ≤ 9223372036854775807
  minleft : -9223372036854775808 ≤ c.minleft ∧ c.minleft ≤ 9223372036854775807
/-- Why a field is a fault by itself, if so. -/
def ownE (c : Cf) (k : Nat) : Int :=
  if k = 1 then wiE c.step 4562254508917369340 4621819117588971520
  else if k = 2 then wiE c.watch 4607182418800017408 4660134898793709568
  else if k = 3 then wiE c.panic 4607182418800017408 4681608360884174848
  else if k = 4 then wiE c.maxrate 4517329193108106637 4591870180066957722
  else if k = 5 then wiE c.phi 0 4576918229304087675
  else if k = 6 then wiE c.maxdist 4576918229304087675 4625196817309499392
  else if k = 7 then wiE c.gate 4607182418800017408 4636737291354636288
  else if k = 8 then (if c.minpoll < 4 ∨ 17 < c.minpoll then 100 else 0)
  else if k = 9 then (if c.maxpoll < 4 ∨ 17 < c.maxpoll then 100 else 0)
  else if k = 10 then (if c.burst < 0 ∨ 8 < c.burst then 100 else 0)
  else if k = 11 then (if c.minsane < 1 ∨ 10 < c.minsane then 100 else 0)
  else if c.minleft < 1 ∨ 10 < c.minleft then 100 else 0
/-- Why a field is a fault, if so. -/
def fieldE (c : Cf) (k : Nat) : Int :=
  if ownE c k ≠ 0 then ownE c k
  else if k = 3 ∧ ownE c 1 = 0 ∧ V c.panic ≤ V c.step then 100
  else if k = 9 ∧ ownE c 8 = 0 ∧ c.maxpoll < c.minpoll then 100
  else 0
def stdC : Cf := ⟨4593671619917905920, 4643985272004935680, 4652007308841189376, 4557750909289998844, 4534972062662729065, 4609434218613702656, 4616189618054758400, 6, 10, 0, 1, 3⟩
end Go.Proofs.Ytjelbpibofngiaa.W
