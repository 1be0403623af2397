/-
  No cell of these rows narrows 'for every input' (looked for: loops, veiled, ifaces, maps, wideKeys, modest, calm, conditions, laid).
  DERIVED. THE GIVEN ROWS OF THIS SEAT. 6 by the template 'for every input the law returns true; each argument reads behind the call as it read before'; 0 by the template 'total and deterministic' (their statements: YtlidlmgmijndcaaGreatTotals.lean).
  GIVEN WITH THE SEED: the statements are not yours to turn. If you find one false, say at which input.
  Laid BY PROGRAM, IN A SANDBOX (cutbox-rows.mjs): the forced cells as the released guide's own fill.sh prints them over the translation 6e3f309c5545c8f6… (all of the seat's roots in one cut). By AI agents, Wed Nov 11 2026. No macro, syntax, notation, axiom, sorry.
-/
import Derived.Test.YtlidlmgmijndcaaGreatChecked
import GoSem.Claim
import GoSem.ClaimJoined
import GoSem.ClaimMapViews
import Derived.JoinedTies
import Derived.KernelRfl
namespace Go.Proofs.YtlidlmgmijndcaaGreat
/- THE CELL 'sum', in the pinned program and in every row, IS THE sha256 OF THE DUMP (.gsa) THAT YtlidlmgmijndcaaGreatProg.lean LOADS. Nothing in Lean hashes anything: it is a label: what it is worth is what the hold of that sum in a sandbox is worth. -/
noncomputable def Tryz.pinned : Pinned := { name := "ytlidlmgmijndcaagreat", sum := "6e3f309c5545c8f6c9ba8f0debff153b8bd40c344b900c51f8241bc47cb68d1f", checked := Tryz.checked }
namespace Rows
def none {H : Type} : Left H := { results := [], args := [] }

/-- 'analemmalaw19.LoopSteps': WHATEVER THE INPUT: true; the input reads as it did. -/
def loopStepsSpec : ChangeSpec := { name := "loopSteps", fn := fun _ => fun
  | [d1, d2, d3] => { results := [.lit (.bool true)], args := [d1, d2, d3] }
  | _ => none }
def loopStepsRow : OpenClaim := { program := "ytlidlmgmijndcaagreat", sum := "6e3f309c5545c8f6c9ba8f0debff153b8bd40c344b900c51f8241bc47cb68d1f", func := "analemma/analemmalaw19.LoopSteps", spec := "loopSteps", inPlace := ["math.Float64bits", "math.archFloor", "math.Float64frombits", "math.archTrunc"], unfollowed := true, recurses := true, apart := false }
def LoopStepsSaid : Prop := loopStepsRow.holds Tryz.pinned (OpenSpec.ofChange loopStepsSpec)

/-- ITS FALSE NEIGHBOUR: 'it returns false'. Refute it at one input. -/
def loopStepsWrong : ChangeSpec := { name := "loopSteps", fn := fun _ => fun
  | [d1, d2, d3] => { results := [.lit (.bool false)], args := [d1, d2, d3] }
  | _ => none }
def LoopStepsWrongFalsely : Prop := loopStepsRow.holds Tryz.pinned (OpenSpec.ofChange loopStepsWrong)

/-- 'analemmalaw19.LoopHeld': WHATEVER THE INPUT: true; the input reads as it did. -/
def loopHeldSpec : ChangeSpec := { name := "loopHeld", fn := fun _ => fun
  | [d1, d2, d3, d4] => { results := [.lit (.bool true)], args := [d1, d2, d3, d4] }
  | _ => none }
def loopHeldRow : OpenClaim := { program := "ytlidlmgmijndcaagreat", sum := "6e3f309c5545c8f6c9ba8f0debff153b8bd40c344b900c51f8241bc47cb68d1f", func := "analemma/analemmalaw19.LoopHeld", spec := "loopHeld", inPlace := ["math.Float64bits", "math.archFloor", "math.Float64frombits", "math.archTrunc"], unfollowed := true, recurses := true, apart := false }
def LoopHeldSaid : Prop := loopHeldRow.holds Tryz.pinned (OpenSpec.ofChange loopHeldSpec)

/-- ITS FALSE NEIGHBOUR: 'it returns false'. Refute it at one input. -/
def loopHeldWrong : ChangeSpec := { name := "loopHeld", fn := fun _ => fun
  | [d1, d2, d3, d4] => { results := [.lit (.bool false)], args := [d1, d2, d3, d4] }
  | _ => none }
def LoopHeldWrongFalsely : Prop := loopHeldRow.holds Tryz.pinned (OpenSpec.ofChange loopHeldWrong)

/-- 'analemmalaw19.LoopTicks': WHATEVER THE INPUT: true; the input reads as it did. -/
def loopTicksSpec : ChangeSpec := { name := "loopTicks", fn := fun _ => fun
  | [d1, d2, d3] => { results := [.lit (.bool true)], args := [d1, d2, d3] }
  | _ => none }
def loopTicksRow : OpenClaim := { program := "ytlidlmgmijndcaagreat", sum := "6e3f309c5545c8f6c9ba8f0debff153b8bd40c344b900c51f8241bc47cb68d1f", func := "analemma/analemmalaw19.LoopTicks", spec := "loopTicks", inPlace := ["math.Float64bits", "math.archFloor", "math.Float64frombits", "math.archTrunc"], unfollowed := true, recurses := true, apart := false }
def LoopTicksSaid : Prop := loopTicksRow.holds Tryz.pinned (OpenSpec.ofChange loopTicksSpec)

/-- ITS FALSE NEIGHBOUR: 'it returns false'. Refute it at one input. -/
def loopTicksWrong : ChangeSpec := { name := "loopTicks", fn := fun _ => fun
  | [d1, d2, d3] => { results := [.lit (.bool false)], args := [d1, d2, d3] }
  | _ => none }
def LoopTicksWrongFalsely : Prop := loopTicksRow.holds Tryz.pinned (OpenSpec.ofChange loopTicksWrong)

/-- 'analemmalaw19.LoopSmooth': WHATEVER THE INPUT: true; the input reads as it did. -/
def loopSmoothSpec : ChangeSpec := { name := "loopSmooth", fn := fun _ => fun
  | [d1, d2] => { results := [.lit (.bool true)], args := [d1, d2] }
  | _ => none }
def loopSmoothRow : OpenClaim := { program := "ytlidlmgmijndcaagreat", sum := "6e3f309c5545c8f6c9ba8f0debff153b8bd40c344b900c51f8241bc47cb68d1f", func := "analemma/analemmalaw19.LoopSmooth", spec := "loopSmooth", inPlace := ["math.Float64bits", "math.archFloor", "math.Float64frombits", "math.archTrunc"], unfollowed := true, recurses := true, apart := false }
def LoopSmoothSaid : Prop := loopSmoothRow.holds Tryz.pinned (OpenSpec.ofChange loopSmoothSpec)

/-- ITS FALSE NEIGHBOUR: 'it returns false'. Refute it at one input. -/
def loopSmoothWrong : ChangeSpec := { name := "loopSmooth", fn := fun _ => fun
  | [d1, d2] => { results := [.lit (.bool false)], args := [d1, d2] }
  | _ => none }
def LoopSmoothWrongFalsely : Prop := loopSmoothRow.holds Tryz.pinned (OpenSpec.ofChange loopSmoothWrong)

/-- 'analemmalaw19.LoopStates': WHATEVER THE INPUT: true; the input reads as it did. -/
def loopStatesSpec : ChangeSpec := { name := "loopStates", fn := fun _ => fun
  | [d1, d2, d3, d4] => { results := [.lit (.bool true)], args := [d1, d2, d3, d4] }
  | _ => none }
def loopStatesRow : OpenClaim := { program := "ytlidlmgmijndcaagreat", sum := "6e3f309c5545c8f6c9ba8f0debff153b8bd40c344b900c51f8241bc47cb68d1f", func := "analemma/analemmalaw19.LoopStates", spec := "loopStates", inPlace := ["math.Float64bits", "math.archFloor", "math.Float64frombits", "math.archTrunc"], unfollowed := true, recurses := true, apart := false }
def LoopStatesSaid : Prop := loopStatesRow.holds Tryz.pinned (OpenSpec.ofChange loopStatesSpec)

/-- ITS FALSE NEIGHBOUR: 'it returns false'. Refute it at one input. -/
def loopStatesWrong : ChangeSpec := { name := "loopStates", fn := fun _ => fun
  | [d1, d2, d3, d4] => { results := [.lit (.bool false)], args := [d1, d2, d3, d4] }
  | _ => none }
def LoopStatesWrongFalsely : Prop := loopStatesRow.holds Tryz.pinned (OpenSpec.ofChange loopStatesWrong)

/-- 'analemmalaw19.LoopTurns': WHATEVER THE INPUT: true; the input reads as it did. -/
def loopTurnsSpec : ChangeSpec := { name := "loopTurns", fn := fun _ => fun
  | [d1, d2, d3] => { results := [.lit (.bool true)], args := [d1, d2, d3] }
  | _ => none }
def loopTurnsRow : OpenClaim := { program := "ytlidlmgmijndcaagreat", sum := "6e3f309c5545c8f6c9ba8f0debff153b8bd40c344b900c51f8241bc47cb68d1f", func := "analemma/analemmalaw19.LoopTurns", spec := "loopTurns", inPlace := ["math.Float64bits", "math.archFloor", "math.Float64frombits", "math.archTrunc"], unfollowed := true, recurses := true, apart := false }
def LoopTurnsSaid : Prop := loopTurnsRow.holds Tryz.pinned (OpenSpec.ofChange loopTurnsSpec)

/-- ITS FALSE NEIGHBOUR: 'it returns false'. Refute it at one input. -/
def loopTurnsWrong : ChangeSpec := { name := "loopTurns", fn := fun _ => fun
  | [d1, d2, d3] => { results := [.lit (.bool false)], args := [d1, d2, d3] }
  | _ => none }
def LoopTurnsWrongFalsely : Prop := loopTurnsRow.holds Tryz.pinned (OpenSpec.ofChange loopTurnsWrong)

/- THE SECOND FORM. 'bulk': how many values and letters a reading holds, each counted each time it is reached (what is shared counts as often as it is met; a slice's spare places count too). A statement '..UptoSaid' is the law's where the arguments, and the package variables that the reading takes, are together of bulk at most 1048576: NARROWER than '..Said'. Prove '..Said' where nothing that the law and all that it calls make is longer than what came in: it says more and counts as full. Else prove '..UptoSaid'. A law counts once. -/
mutual
def uptoBulk {H : Type} : DataW H → Nat
  | .lit (.string bytes) => bytes.length + 1
  | .lit _ => 1
  | .nil => 1
  | .ptr d => uptoBulk d + 1
  | .slice elems spare => uptoBulkAll elems + uptoBulkAll spare + 1
  | .agg parts => uptoBulkAll parts + 1
  | .iface _ d => uptoBulk d + 1
  | .map entries => uptoBulkEntries entries + 1
  | .held _ => 1
def uptoBulkAll {H : Type} : List (DataW H) → Nat
  | [] => 0
  | d :: r => uptoBulk d + uptoBulkAll r
def uptoBulkEntries {H : Type} : List (Lit × DataW H) → Nat
  | [] => 0
  | x :: r => uptoBulkEntry x + uptoBulkEntries r
def uptoBulkEntry {H : Type} : Lit × DataW H → Nat
  | (.string bytes, d) => bytes.length + uptoBulk d + 1
  | (_, d) => uptoBulk d + 1
 end
def uptoSmall : (H : Type) → List (DataW H) → Bool := fun _ ds => decide (uptoBulkAll ds ≤ 1048576)
def OpenSpec.upto (s : _root_.Go.ChangeSpec) : _root_.Go.OpenSpec := { _root_.Go.OpenSpec.ofChange s with cond := some uptoSmall }

/-- 'analemmalaw19.LoopSteps', WHERE WHAT IT READS IS OF BULK AT MOST 1048576: true; the input reads as it did. -/
def loopStepsUptoRow : OpenClaim := { program := "ytlidlmgmijndcaagreat", sum := "6e3f309c5545c8f6c9ba8f0debff153b8bd40c344b900c51f8241bc47cb68d1f", func := "analemma/analemmalaw19.LoopSteps", spec := "loopSteps", inPlace := ["math.Float64bits", "math.archFloor", "math.Float64frombits", "math.archTrunc"], unfollowed := true, recurses := true, apart := false, narrowed := true }
def LoopStepsUptoSaid : Prop := loopStepsUptoRow.holds Tryz.pinned (OpenSpec.upto loopStepsSpec)

/-- 'analemmalaw19.LoopHeld', WHERE WHAT IT READS IS OF BULK AT MOST 1048576: true; the input reads as it did. -/
def loopHeldUptoRow : OpenClaim := { program := "ytlidlmgmijndcaagreat", sum := "6e3f309c5545c8f6c9ba8f0debff153b8bd40c344b900c51f8241bc47cb68d1f", func := "analemma/analemmalaw19.LoopHeld", spec := "loopHeld", inPlace := ["math.Float64bits", "math.archFloor", "math.Float64frombits", "math.archTrunc"], unfollowed := true, recurses := true, apart := false, narrowed := true }
def LoopHeldUptoSaid : Prop := loopHeldUptoRow.holds Tryz.pinned (OpenSpec.upto loopHeldSpec)

/-- 'analemmalaw19.LoopTicks', WHERE WHAT IT READS IS OF BULK AT MOST 1048576: true; the input reads as it did. -/
def loopTicksUptoRow : OpenClaim := { program := "ytlidlmgmijndcaagreat", sum := "6e3f309c5545c8f6c9ba8f0debff153b8bd40c344b900c51f8241bc47cb68d1f", func := "analemma/analemmalaw19.LoopTicks", spec := "loopTicks", inPlace := ["math.Float64bits", "math.archFloor", "math.Float64frombits", "math.archTrunc"], unfollowed := true, recurses := true, apart := false, narrowed := true }
def LoopTicksUptoSaid : Prop := loopTicksUptoRow.holds Tryz.pinned (OpenSpec.upto loopTicksSpec)

/-- 'analemmalaw19.LoopSmooth', WHERE WHAT IT READS IS OF BULK AT MOST 1048576: true; the input reads as it did. -/
def loopSmoothUptoRow : OpenClaim := { program := "ytlidlmgmijndcaagreat", sum := "6e3f309c5545c8f6c9ba8f0debff153b8bd40c344b900c51f8241bc47cb68d1f", func := "analemma/analemmalaw19.LoopSmooth", spec := "loopSmooth", inPlace := ["math.Float64bits", "math.archFloor", "math.Float64frombits", "math.archTrunc"], unfollowed := true, recurses := true, apart := false, narrowed := true }
def LoopSmoothUptoSaid : Prop := loopSmoothUptoRow.holds Tryz.pinned (OpenSpec.upto loopSmoothSpec)

/-- 'analemmalaw19.LoopStates', WHERE WHAT IT READS IS OF BULK AT MOST 1048576: true; the input reads as it did. -/
def loopStatesUptoRow : OpenClaim := { program := "ytlidlmgmijndcaagreat", sum := "6e3f309c5545c8f6c9ba8f0debff153b8bd40c344b900c51f8241bc47cb68d1f", func := "analemma/analemmalaw19.LoopStates", spec := "loopStates", inPlace := ["math.Float64bits", "math.archFloor", "math.Float64frombits", "math.archTrunc"], unfollowed := true, recurses := true, apart := false, narrowed := true }
def LoopStatesUptoSaid : Prop := loopStatesUptoRow.holds Tryz.pinned (OpenSpec.upto loopStatesSpec)

/-- 'analemmalaw19.LoopTurns', WHERE WHAT IT READS IS OF BULK AT MOST 1048576: true; the input reads as it did. -/
def loopTurnsUptoRow : OpenClaim := { program := "ytlidlmgmijndcaagreat", sum := "6e3f309c5545c8f6c9ba8f0debff153b8bd40c344b900c51f8241bc47cb68d1f", func := "analemma/analemmalaw19.LoopTurns", spec := "loopTurns", inPlace := ["math.Float64bits", "math.archFloor", "math.Float64frombits", "math.archTrunc"], unfollowed := true, recurses := true, apart := false, narrowed := true }
def LoopTurnsUptoSaid : Prop := loopTurnsUptoRow.holds Tryz.pinned (OpenSpec.upto loopTurnsSpec)

end Rows
end Go.Proofs.YtlidlmgmijndcaaGreat
