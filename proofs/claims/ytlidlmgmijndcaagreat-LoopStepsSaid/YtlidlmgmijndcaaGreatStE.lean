import Derived.Test.YtlidlmgmijndcaaGreatFpD
import Derived.Test.YtlidlmgmijndcaaGreatFyD
import Derived.Test.YtlidlmgmijndcaaGreatWdefs
import Derived.Deep.DeepCutAuto
import Derived.Lib.Hide
import Derived.Lib.QuietBelow
import Derived.Test.YtlidlmgmijndcaaGreatSlA
import Derived.Laws.AppendOwn
import Derived.Test.YtlidlmgmijndcaaGreatRowS
/- Layer 10 as words and numbers: what may be set. No program in it. -/
namespace Go.Proofs.YtlidlmgmijndcaaGreat.W
open Go.RowKit
set_option linter.unusedVariables false
/-- A configuration: floating-point numbers by their bits. -/
structure Cf where
  step : Nat
  watch : Nat
  panic : Nat
  maxrate : Nat
  phi : Nat
  maxdist : Nat
  gate : Nat
  minpoll : Int
  maxpoll : Int
  burst : Int
  minsane : Int
  minleft : Int
def Cf.val (c : Cf) : Value := .agg #[.float .f64 c.step, .float .f64 c.watch, .float .f64 c.panic, .float .f64 c.maxrate, .float .f64 c.phi, .float .f64 c.maxdist, .float .f64 c.gate, .int .i64 c.minpoll, .int .i64 c.maxpoll, .int .i64 c.burst, .int .i64 c.minsane, .int .i64 c.minleft]
structure Cf.Typed (c : Cf) : Prop where
  step : c.step < 18446744073709551616
  watch : c.watch < 18446744073709551616
  panic : c.panic < 18446744073709551616
  maxrate : c.maxrate < 18446744073709551616
  phi : c.phi < 18446744073709551616
  maxdist : c.maxdist < 18446744073709551616
  gate : c.gate < 18446744073709551616
  minpoll : -9223372036854775808 ≤ c.minpoll ∧ c.minpoll ≤ 9223372036854775807
  maxpoll : -9223372036854775808 ≤ c.maxpoll ∧ c.maxpoll ≤ 9223372036854775807
  burst : -9223372036854775808 ≤ c.burst ∧ c.burst ≤ 9223372036854775807
  minsane : -9223372036854775808 ≤ c.minsane ∧ c.minsane ≤ 9223372036854775807
  minleft : -9223372036854775808 ≤ c.minleft ∧ c.minleft ≤ 9223372036854775807
/-- Why a field is a fault by itself, if so. -/
def ownE (c : Cf) (k : Nat) : Int :=
  if k = 1 then wiE c.step 4562254508917369340 4621819117588971520
  else if k = 2 then wiE c.watch 4607182418800017408 4660134898793709568
  else if k = 3 then wiE c.panic 4607182418800017408 4681608360884174848
  else if k = 4 then wiE c.maxrate 4517329193108106637 4591870180066957722
  else if k = 5 then wiE c.phi 0 4576918229304087675
  else if k = 6 then wiE c.maxdist 4576918229304087675 4625196817309499392
  else if k = 7 then wiE c.gate 4607182418800017408 4636737291354636288
  else if k = 8 then (if c.minpoll < 4 ∨ 17 < c.minpoll then 100 else 0)
  else if k = 9 then (if c.maxpoll < 4 ∨ 17 < c.maxpoll then 100 else 0)
  else if k = 10 then (if c.burst < 0 ∨ 8 < c.burst then 100 else 0)
  else if k = 11 then (if c.minsane < 1 ∨ 10 < c.minsane then 100 else 0)
  else if c.minleft < 1 ∨ 10 < c.minleft then 100 else 0
/-- Why a field is a fault, if so. -/
def fieldE (c : Cf) (k : Nat) : Int :=
  if ownE c k ≠ 0 then ownE c k
  else if k = 3 ∧ ownE c 1 = 0 ∧ V c.panic ≤ V c.step then 100
  else if k = 9 ∧ ownE c 8 = 0 ∧ c.maxpoll < c.minpoll then 100
  else 0
def stdC : Cf := ⟨4593671619917905920, 4643985272004935680, 4652007308841189376, 4557750909289998844, 4534972062662729065, 4609434218613702656, 4616189618054758400, 6, 10, 0, 1, 3⟩
end Go.Proofs.YtlidlmgmijndcaaGreat.W

/- The document's own answers of layer 10, walked: a field. -/
namespace Go.Proofs.YtlidlmgmijndcaaGreat.W
open Go.RowKit Go.Sort
set_option linter.unusedVariables false
set_option linter.unusedSimpArgs false
theorem own_at1 (c : Cf) : ownE c 1 = (wiE c.step 4562254508917369340 4621819117588971520) := by unfold ownE; rw [if_pos rfl]
theorem own_at2 (c : Cf) : ownE c 2 = (wiE c.watch 4607182418800017408 4660134898793709568) := by unfold ownE; rw [if_neg (show ¬ (2 : Nat) = 1 by decide)]; rw [if_pos rfl]
theorem own_at3 (c : Cf) : ownE c 3 = (wiE c.panic 4607182418800017408 4681608360884174848) := by unfold ownE; rw [if_neg (show ¬ (3 : Nat) = 1 by decide)]; rw [if_neg (show ¬ (3 : Nat) = 2 by decide)]; rw [if_pos rfl]
theorem own_at4 (c : Cf) : ownE c 4 = (wiE c.maxrate 4517329193108106637 4591870180066957722) := by unfold ownE; rw [if_neg (show ¬ (4 : Nat) = 1 by decide)]; rw [if_neg (show ¬ (4 : Nat) = 2 by decide)]; rw [if_neg (show ¬ (4 : Nat) = 3 by decide)]; rw [if_pos rfl]
theorem own_at5 (c : Cf) : ownE c 5 = (wiE c.phi 0 4576918229304087675) := by unfold ownE; rw [if_neg (show ¬ (5 : Nat) = 1 by decide)]; rw [if_neg (show ¬ (5 : Nat) = 2 by decide)]; rw [if_neg (show ¬ (5 : Nat) = 3 by decide)]; rw [if_neg (show ¬ (5 : Nat) = 4 by decide)]; rw [if_pos rfl]
theorem own_at6 (c : Cf) : ownE c 6 = (wiE c.maxdist 4576918229304087675 4625196817309499392) := by unfold ownE; rw [if_neg (show ¬ (6 : Nat) = 1 by decide)]; rw [if_neg (show ¬ (6 : Nat) = 2 by decide)]; rw [if_neg (show ¬ (6 : Nat) = 3 by decide)]; rw [if_neg (show ¬ (6 : Nat) = 4 by decide)]; rw [if_neg (show ¬ (6 : Nat) = 5 by decide)]; rw [if_pos rfl]
theorem own_at7 (c : Cf) : ownE c 7 = (wiE c.gate 4607182418800017408 4636737291354636288) := by unfold ownE; rw [if_neg (show ¬ (7 : Nat) = 1 by decide)]; rw [if_neg (show ¬ (7 : Nat) = 2 by decide)]; rw [if_neg (show ¬ (7 : Nat) = 3 by decide)]; rw [if_neg (show ¬ (7 : Nat) = 4 by decide)]; rw [if_neg (show ¬ (7 : Nat) = 5 by decide)]; rw [if_neg (show ¬ (7 : Nat) = 6 by decide)]; rw [if_pos rfl]
theorem own_at8 (c : Cf) : ownE c 8 = (if c.minpoll < 4 ∨ 17 < c.minpoll then 100 else 0) := by unfold ownE; rw [if_neg (show ¬ (8 : Nat) = 1 by decide)]; rw [if_neg (show ¬ (8 : Nat) = 2 by decide)]; rw [if_neg (show ¬ (8 : Nat) = 3 by decide)]; rw [if_neg (show ¬ (8 : Nat) = 4 by decide)]; rw [if_neg (show ¬ (8 : Nat) = 5 by decide)]; rw [if_neg (show ¬ (8 : Nat) = 6 by decide)]; rw [if_neg (show ¬ (8 : Nat) = 7 by decide)]; rw [if_pos rfl]
theorem own_at9 (c : Cf) : ownE c 9 = (if c.maxpoll < 4 ∨ 17 < c.maxpoll then 100 else 0) := by unfold ownE; rw [if_neg (show ¬ (9 : Nat) = 1 by decide)]; rw [if_neg (show ¬ (9 : Nat) = 2 by decide)]; rw [if_neg (show ¬ (9 : Nat) = 3 by decide)]; rw [if_neg (show ¬ (9 : Nat) = 4 by decide)]; rw [if_neg (show ¬ (9 : Nat) = 5 by decide)]; rw [if_neg (show ¬ (9 : Nat) = 6 by decide)]; rw [if_neg (show ¬ (9 : Nat) = 7 by decide)]; rw [if_neg (show ¬ (9 : Nat) = 8 by decide)]; rw [if_pos rfl]
theorem own_at10 (c : Cf) : ownE c 10 = (if c.burst < 0 ∨ 8 < c.burst then 100 else 0) := by unfold ownE; rw [if_neg (show ¬ (10 : Nat) = 1 by decide)]; rw [if_neg (show ¬ (10 : Nat) = 2 by decide)]; rw [if_neg (show ¬ (10 : Nat) = 3 by decide)]; rw [if_neg (show ¬ (10 : Nat) = 4 by decide)]; rw [if_neg (show ¬ (10 : Nat) = 5 by decide)]; rw [if_neg (show ¬ (10 : Nat) = 6 by decide)]; rw [if_neg (show ¬ (10 : Nat) = 7 by decide)]; rw [if_neg (show ¬ (10 : Nat) = 8 by decide)]; rw [if_neg (show ¬ (10 : Nat) = 9 by decide)]; rw [if_pos rfl]
theorem own_at11 (c : Cf) : ownE c 11 = (if c.minsane < 1 ∨ 10 < c.minsane then 100 else 0) := by unfold ownE; rw [if_neg (show ¬ (11 : Nat) = 1 by decide)]; rw [if_neg (show ¬ (11 : Nat) = 2 by decide)]; rw [if_neg (show ¬ (11 : Nat) = 3 by decide)]; rw [if_neg (show ¬ (11 : Nat) = 4 by decide)]; rw [if_neg (show ¬ (11 : Nat) = 5 by decide)]; rw [if_neg (show ¬ (11 : Nat) = 6 by decide)]; rw [if_neg (show ¬ (11 : Nat) = 7 by decide)]; rw [if_neg (show ¬ (11 : Nat) = 8 by decide)]; rw [if_neg (show ¬ (11 : Nat) = 9 by decide)]; rw [if_neg (show ¬ (11 : Nat) = 10 by decide)]; rw [if_pos rfl]
theorem own_at12 (c : Cf) : ownE c 12 = (if c.minleft < 1 ∨ 10 < c.minleft then 100 else 0) := by unfold ownE; rw [if_neg (show ¬ (12 : Nat) = 1 by decide)]; rw [if_neg (show ¬ (12 : Nat) = 2 by decide)]; rw [if_neg (show ¬ (12 : Nat) = 3 by decide)]; rw [if_neg (show ¬ (12 : Nat) = 4 by decide)]; rw [if_neg (show ¬ (12 : Nat) = 5 by decide)]; rw [if_neg (show ¬ (12 : Nat) = 6 by decide)]; rw [if_neg (show ¬ (12 : Nat) = 7 by decide)]; rw [if_neg (show ¬ (12 : Nat) = 8 by decide)]; rw [if_neg (show ¬ (12 : Nat) = 9 by decide)]; rw [if_neg (show ¬ (12 : Nat) = 10 by decide)]; rw [if_neg (show ¬ (12 : Nat) = 11 by decide)]
end Go.Proofs.YtlidlmgmijndcaaGreat.W

/- The document's own answers of layer 10, walked: faults. -/
namespace Go.Proofs.YtlidlmgmijndcaaGreat.W
open Go.RowKit Go.Sort
set_option linter.unusedVariables false
set_option linter.unusedSimpArgs false
theorem own_num {f l h : Nat} (e : wiE f l h = 0) : isN f ∧ V l ≤ V f ∧ V f ≤ V h := by
  unfold wiE at e
  split at e
  · omega
  · rename_i e0
    split at e
    · omega
    · split at e
      · omega
      · split at e
        · cases e
        · refine ⟨?_, by omega, by omega⟩
          have e0 : ofE f = 0 := by omega
          unfold ofE at e0
          split at e0
          · cases e0
          · unfold isN; omega
theorem twelve_at {w : World} {p : Nat} {a0 a1 a2 a3 a4 a5 a6 a7 a8 a9 a10 a11 : Value} {t : TypeId} (h : w.heap[p]? = some (.cells #[a0, a1, a2, a3, a4, a5, a6, a7, a8, a9, a10, a11] t (0, 0))) :
    w.cell? ⟨p, 0, none⟩ = some a0 ∧ w.cell? ⟨p, 1, none⟩ = some a1 ∧ w.cell? ⟨p, 2, none⟩ = some a2 ∧ w.cell? ⟨p, 3, none⟩ = some a3 ∧ w.cell? ⟨p, 4, none⟩ = some a4 ∧ w.cell? ⟨p, 5, none⟩ = some a5 ∧ w.cell? ⟨p, 6, none⟩ = some a6 ∧ w.cell? ⟨p, 7, none⟩ = some a7 ∧ w.cell? ⟨p, 8, none⟩ = some a8 ∧ w.cell? ⟨p, 9, none⟩ = some a9 ∧ w.cell? ⟨p, 10, none⟩ = some a10 ∧ w.cell? ⟨p, 11, none⟩ = some a11 := by
  refine ⟨?_, ?_, ?_, ?_, ?_, ?_, ?_, ?_, ?_, ?_, ?_, ?_⟩ <;> simp [World.cell?, h]
end Go.Proofs.YtlidlmgmijndcaaGreat.W

/- The document's own answers of layer 10, walked: all faults. -/
namespace Go.Proofs.YtlidlmgmijndcaaGreat.W
open Go.RowKit Go.Sort
set_option linter.unusedVariables false
set_option linter.unusedSimpArgs false
/-- The faults among the first n fields. -/
def upTo (c : Cf) (n : Nat) : List Int := ((List.range' 1 n).filter fun k => decide (fieldE c k ≠ 0)).map fun k : Nat => (k : Int)
theorem upTo_next (c : Cf) (n : Nat) : upTo c (n + 1) = if fieldE c (n + 1) = 0 then upTo c n else upTo c n ++ [((n : Int) + 1)] := by
  unfold upTo
  rw [List.range'_concat, List.filter_append, List.map_append]
  by_cases h : fieldE c (n + 1) = 0
  · rw [if_pos h]
    simp [h, Nat.add_comm 1 n]
  · rw [if_neg h]
    simp [h, Nat.add_comm 1 n]
end Go.Proofs.YtlidlmgmijndcaaGreat.W

