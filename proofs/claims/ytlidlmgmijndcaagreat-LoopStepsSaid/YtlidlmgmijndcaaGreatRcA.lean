/- Layer 11 as numbers: when a server is asked, and whether it answers. No program in it. -/
import Derived.Test.YtlidlmgmijndcaaGreatFdefs
import Derived.Test.YtlidlmgmijndcaaGreatStH
namespace Go.Proofs.YtlidlmgmijndcaaGreat.W
open Go.RowKit
set_option linter.unusedVariables false
structure Pm.Typed (p : Pm) : Prop where
  step : -9223372036854775808 ≤ p.step ∧ p.step ≤ 9223372036854775807
  watch : -9223372036854775808 ≤ p.watch ∧ p.watch ≤ 9223372036854775807
  panic : -9223372036854775808 ≤ p.panic ∧ p.panic ≤ 9223372036854775807
  maxrate : -9223372036854775808 ≤ p.maxrate ∧ p.maxrate ≤ 9223372036854775807
  phi : -9223372036854775808 ≤ p.phi ∧ p.phi ≤ 9223372036854775807
  maxdist : -9223372036854775808 ≤ p.maxdist ∧ p.maxdist ≤ 9223372036854775807
  gate : -9223372036854775808 ≤ p.gate ∧ p.gate ≤ 9223372036854775807
  minpoll : -9223372036854775808 ≤ p.minpoll ∧ p.minpoll ≤ 9223372036854775807
  maxpoll : -9223372036854775808 ≤ p.maxpoll ∧ p.maxpoll ≤ 9223372036854775807
  burst : -9223372036854775808 ≤ p.burst ∧ p.burst ≤ 9223372036854775807
  minsane : -9223372036854775808 ≤ p.minsane ∧ p.minsane ≤ 9223372036854775807
  minleft : -9223372036854775808 ≤ p.minleft ∧ p.minleft ≤ 9223372036854775807
/-- What is set as a rule. -/
structure Std (p : Pm) : Prop where
  typed : p.Typed
  minpoll : p.minpoll = 6
  maxpoll : p.maxpoll = 10
  burst : p.burst = 0
theorem set_typed (c : Cf) (t : c.Typed) : (setP c).Typed := by
  have b := ofV_bounds
  unfold setP
  refine ⟨?_, ?_, ?_, ?_, ?_, ?_, ?_, ?_, ?_, ?_, ?_, ?_⟩ <;> dsimp only
  · exact b _
  · exact b _
  · exact b _
  · exact b _
  · exact b _
  · exact b _
  · exact b _
  · exact t.minpoll
  · exact t.maxpoll
  · exact t.burst
  · exact t.minsane
  · exact t.minleft
theorem std_params : Std (chkP stdC) := by
  have e : chkP stdC = setP stdC := by
    unfold chkP
    rw [std_none, if_pos rfl]
  rw [e]
  have ht := set_typed stdC (by refine ⟨?_, ?_, ?_, ?_, ?_, ?_, ?_, ⟨?_, ?_⟩, ⟨?_, ?_⟩, ⟨?_, ?_⟩, ⟨?_, ?_⟩, ⟨?_, ?_⟩⟩ <;> decide)
  refine ⟨ht, ?_, ?_, ?_⟩
  · unfold setP
    dsimp only
    rfl
  · unfold setP
    dsimp only
    rfl
  · unfold setP
    dsimp only
    rfl
end Go.Proofs.YtlidlmgmijndcaaGreat.W
