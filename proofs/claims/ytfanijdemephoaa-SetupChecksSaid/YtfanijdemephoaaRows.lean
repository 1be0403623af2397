/-
  No cell of these rows narrows 'for every input' (looked for: loops, veiled, ifaces, maps, wideKeys, modest, calm, conditions, laid).
  DERIVED. THE GIVEN ROWS OF THIS SEAT. 3 by the template 'for every input the law returns true; each argument reads behind the call as it read before'; 0 by the template 'total and deterministic' (their statements: YtfanijdemephoaaTotals.lean).
  GIVEN WITH THE SEED: the statements are not yours to turn. If you find one false, say at which input.
  Laid BY PROGRAM, IN A SANDBOX (cutbox-rows.mjs): the forced cells as the released guide's own fill.sh prints them over the translation 584607ff069df4dc… (all of the seat's roots in one cut). By AI agents, Wed Nov 11 2026. No macro, syntax, notation, axiom, sorry.
-/
import Derived.Test.YtfanijdemephoaaChecked
import GoSem.Claim
import GoSem.ClaimJoined
import GoSem.ClaimMapViews
import Derived.JoinedTies
import Derived.KernelRfl
namespace Go.Proofs.Ytfanijdemephoaa
/- THE CELL 'sum', in the pinned program and in every row, IS THE sha256 OF THE DUMP (.gsa) THAT YtfanijdemephoaaProg.lean LOADS. Nothing in Lean hashes anything: it is a label: what it is worth is what the hold of that sum in a sandbox is worth. -/
noncomputable def Try.pinned : Pinned := { name := "ytfanijdemephoaa", sum := "584607ff069df4dc3c35229f0736be200484b63385e7a76b2ef0e0badfd63ea1", checked := Try.checked }
namespace Rows
def none {H : Type} : Left H := { results := [], args := [] }

/-- 'analemmalaw10.SetupChecks': WHATEVER THE INPUT: true; the input reads as it did. -/
def setupChecksSpec : ChangeSpec := { name := "setupChecks", fn := fun _ => fun
  | [d1, d2] => { results := [.lit (.bool true)], args := [d1, d2] }
  | _ => none }
def setupChecksRow : OpenClaim := { program := "ytfanijdemephoaa", sum := "584607ff069df4dc3c35229f0736be200484b63385e7a76b2ef0e0badfd63ea1", func := "analemma/analemmalaw10.SetupChecks", spec := "setupChecks", inPlace := ["math.Float64bits", "math.archFloor", "math.Float64frombits", "math.archTrunc"], unfollowed := true, recurses := true, apart := false }
def SetupChecksSaid : Prop := setupChecksRow.holds Try.pinned (OpenSpec.ofChange setupChecksSpec)

/-- ITS FALSE NEIGHBOUR: 'it returns false'. Refute it at one input. -/
def setupChecksWrong : ChangeSpec := { name := "setupChecks", fn := fun _ => fun
  | [d1, d2] => { results := [.lit (.bool false)], args := [d1, d2] }
  | _ => none }
def SetupChecksWrongFalsely : Prop := setupChecksRow.holds Try.pinned (OpenSpec.ofChange setupChecksWrong)

/-- 'analemmalaw10.SetupOne': WHATEVER THE INPUT: true; the input reads as it did. -/
def setupOneSpec : ChangeSpec := { name := "setupOne", fn := fun _ => fun
  | [d1, d2, d3] => { results := [.lit (.bool true)], args := [d1, d2, d3] }
  | _ => none }
def setupOneRow : OpenClaim := { program := "ytfanijdemephoaa", sum := "584607ff069df4dc3c35229f0736be200484b63385e7a76b2ef0e0badfd63ea1", func := "analemma/analemmalaw10.SetupOne", spec := "setupOne", inPlace := ["math.Float64bits", "math.archFloor", "math.Float64frombits", "math.archTrunc"], unfollowed := true, recurses := true, apart := false }
def SetupOneSaid : Prop := setupOneRow.holds Try.pinned (OpenSpec.ofChange setupOneSpec)

/-- ITS FALSE NEIGHBOUR: 'it returns false'. Refute it at one input. -/
def setupOneWrong : ChangeSpec := { name := "setupOne", fn := fun _ => fun
  | [d1, d2, d3] => { results := [.lit (.bool false)], args := [d1, d2, d3] }
  | _ => none }
def SetupOneWrongFalsely : Prop := setupOneRow.holds Try.pinned (OpenSpec.ofChange setupOneWrong)

/-- 'analemmalaw10.SetupWithin': WHATEVER THE INPUT: true; the input reads as it did. -/
def setupWithinSpec : ChangeSpec := { name := "setupWithin", fn := fun _ => fun
  | [d] => { results := [.lit (.bool true)], args := [d] }
  | _ => none }
def setupWithinRow : OpenClaim := { program := "ytfanijdemephoaa", sum := "584607ff069df4dc3c35229f0736be200484b63385e7a76b2ef0e0badfd63ea1", func := "analemma/analemmalaw10.SetupWithin", spec := "setupWithin", inPlace := ["math.Float64bits", "math.archFloor", "math.Float64frombits", "math.archTrunc"], unfollowed := true, recurses := true, apart := false }
def SetupWithinSaid : Prop := setupWithinRow.holds Try.pinned (OpenSpec.ofChange setupWithinSpec)

/-- ITS FALSE NEIGHBOUR: 'it returns false'. Refute it at one input. -/
def setupWithinWrong : ChangeSpec := { name := "setupWithin", fn := fun _ => fun
  | [d] => { results := [.lit (.bool false)], args := [d] }
  | _ => none }
def SetupWithinWrongFalsely : Prop := setupWithinRow.holds Try.pinned (OpenSpec.ofChange setupWithinWrong)

/- THE SECOND FORM. 'bulk': how many values and letters a reading holds, each counted each time it is reached (what is shared counts as often as it is met; a slice's spare places count too). A statement '..UptoSaid' is the law's where the arguments, and the package variables that the reading takes, are together of bulk at most 1048576: NARROWER than '..Said'. Prove '..Said' where nothing that the law and all that it calls make is longer than what came in: it says more and counts as full. Else prove '..UptoSaid'. A law counts once. -/
mutual
def uptoBulk {H : Type} : DataW H → Nat
  | .lit (.string bytes) => bytes.length + 1
  | .lit _ => 1
  | .nil => 1
  | .ptr d => uptoBulk d + 1
  | .slice elems spare => uptoBulkAll elems + uptoBulkAll spare + 1
  | .agg parts => uptoBulkAll parts + 1
  | .iface _ d => uptoBulk d + 1
  | .map entries => uptoBulkEntries entries + 1
  | .held _ => 1
def uptoBulkAll {H : Type} : List (DataW H) → Nat
  | [] => 0
  | d :: r => uptoBulk d + uptoBulkAll r
def uptoBulkEntries {H : Type} : List (Lit × DataW H) → Nat
  | [] => 0
  | x :: r => uptoBulkEntry x + uptoBulkEntries r
def uptoBulkEntry {H : Type} : Lit × DataW H → Nat
  | (.string bytes, d) => bytes.length + uptoBulk d + 1
  | (_, d) => uptoBulk d + 1
 end
def uptoSmall : (H : Type) → List (DataW H) → Bool := fun _ ds => decide (uptoBulkAll ds ≤ 1048576)
def OpenSpec.upto (s : _root_.Go.ChangeSpec) : _root_.Go.OpenSpec := { _root_.Go.OpenSpec.ofChange s with cond := some uptoSmall }

/-- 'analemmalaw10.SetupChecks', WHERE WHAT IT READS IS OF BULK AT MOST 1048576: true; the input reads as it did. -/
def setupChecksUptoRow : OpenClaim := { program := "ytfanijdemephoaa", sum := "584607ff069df4dc3c35229f0736be200484b63385e7a76b2ef0e0badfd63ea1", func := "analemma/analemmalaw10.SetupChecks", spec := "setupChecks", inPlace := ["math.Float64bits", "math.archFloor", "math.Float64frombits", "math.archTrunc"], unfollowed := true, recurses := true, apart := false, narrowed := true }
def SetupChecksUptoSaid : Prop := setupChecksUptoRow.holds Try.pinned (OpenSpec.upto setupChecksSpec)

/-- 'analemmalaw10.SetupOne', WHERE WHAT IT READS IS OF BULK AT MOST 1048576: true; the input reads as it did. -/
def setupOneUptoRow : OpenClaim := { program := "ytfanijdemephoaa", sum := "584607ff069df4dc3c35229f0736be200484b63385e7a76b2ef0e0badfd63ea1", func := "analemma/analemmalaw10.SetupOne", spec := "setupOne", inPlace := ["math.Float64bits", "math.archFloor", "math.Float64frombits", "math.archTrunc"], unfollowed := true, recurses := true, apart := false, narrowed := true }
def SetupOneUptoSaid : Prop := setupOneUptoRow.holds Try.pinned (OpenSpec.upto setupOneSpec)

/-- 'analemmalaw10.SetupWithin', WHERE WHAT IT READS IS OF BULK AT MOST 1048576: true; the input reads as it did. -/
def setupWithinUptoRow : OpenClaim := { program := "ytfanijdemephoaa", sum := "584607ff069df4dc3c35229f0736be200484b63385e7a76b2ef0e0badfd63ea1", func := "analemma/analemmalaw10.SetupWithin", spec := "setupWithin", inPlace := ["math.Float64bits", "math.archFloor", "math.Float64frombits", "math.archTrunc"], unfollowed := true, recurses := true, apart := false, narrowed := true }
def SetupWithinUptoSaid : Prop := setupWithinUptoRow.holds Try.pinned (OpenSpec.upto setupWithinSpec)

end Rows
end Go.Proofs.Ytfanijdemephoaa
