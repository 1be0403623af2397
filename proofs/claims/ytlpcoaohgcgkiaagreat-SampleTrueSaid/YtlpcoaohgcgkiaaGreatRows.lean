/-
  No cell of these rows narrows 'for every input' (looked for: loops, veiled, ifaces, maps, wideKeys, modest, calm, conditions, laid).
  DERIVED. THE GIVEN ROWS OF THIS SEAT. 3 by the template 'for every input the law returns true; each argument reads behind the call as it read before'; 0 by the template 'total and deterministic' (their statements: YtlpcoaohgcgkiaaGreatTotals.lean).
  GIVEN WITH THE SEED: the statements are not yours to turn. If you find one false, say at which input.
  Laid BY PROGRAM, IN A SANDBOX (cutbox-rows.mjs): the forced cells as the released guide's own fill.sh prints them over the translation c4a6a9801c75c2dc… (all of the seat's roots in one cut). By AI agents, Wed Nov 11 2026. No macro, syntax, notation, axiom, sorry.
-/
import Derived.Test.YtlpcoaohgcgkiaaGreatChecked
import GoSem.Claim
import GoSem.ClaimJoined
import GoSem.ClaimMapViews
import Derived.JoinedTies
import Derived.KernelRfl
namespace Go.Proofs.YtlpcoaohgcgkiaaGreat
/- THE CELL 'sum', in the pinned program and in every row, IS THE sha256 OF THE DUMP (.gsa) THAT YtlpcoaohgcgkiaaGreatProg.lean LOADS. Nothing in Lean hashes anything: it is a label: what it is worth is what the hold of that sum in a sandbox is worth. -/
noncomputable def Tryz.pinned : Pinned := { name := "ytlpcoaohgcgkiaagreat", sum := "c4a6a9801c75c2dcdb8d8eabebc8be70f9893f40baaa5f3d28ef70a66662c040", checked := Tryz.checked }
namespace Rows
def none {H : Type} : Left H := { results := [], args := [] }

/-- 'analemmalaw13.SampleMakes': WHATEVER THE INPUT: true; the input reads as it did. -/
def sampleMakesSpec : ChangeSpec := { name := "sampleMakes", fn := fun _ => fun
  | [d1, d2, d3, d4, d5, d6] => { results := [.lit (.bool true)], args := [d1, d2, d3, d4, d5, d6] }
  | _ => none }
def sampleMakesRow : OpenClaim := { program := "ytlpcoaohgcgkiaagreat", sum := "c4a6a9801c75c2dcdb8d8eabebc8be70f9893f40baaa5f3d28ef70a66662c040", func := "analemma/analemmalaw13.SampleMakes", spec := "sampleMakes", inPlace := ["math.Float64bits", "math.archFloor", "math.Float64frombits", "math.archTrunc"], unfollowed := true, recurses := true, apart := false }
def SampleMakesSaid : Prop := sampleMakesRow.holds Tryz.pinned (OpenSpec.ofChange sampleMakesSpec)

/-- ITS FALSE NEIGHBOUR: 'it returns false'. Refute it at one input. -/
def sampleMakesWrong : ChangeSpec := { name := "sampleMakes", fn := fun _ => fun
  | [d1, d2, d3, d4, d5, d6] => { results := [.lit (.bool false)], args := [d1, d2, d3, d4, d5, d6] }
  | _ => none }
def SampleMakesWrongFalsely : Prop := sampleMakesRow.holds Tryz.pinned (OpenSpec.ofChange sampleMakesWrong)

/-- 'analemmalaw13.SampleTrue': WHATEVER THE INPUT: true; the input reads as it did. -/
def sampleTrueSpec : ChangeSpec := { name := "sampleTrue", fn := fun _ => fun
  | [d1, d2, d3, d4, d5, d6] => { results := [.lit (.bool true)], args := [d1, d2, d3, d4, d5, d6] }
  | _ => none }
def sampleTrueRow : OpenClaim := { program := "ytlpcoaohgcgkiaagreat", sum := "c4a6a9801c75c2dcdb8d8eabebc8be70f9893f40baaa5f3d28ef70a66662c040", func := "analemma/analemmalaw13.SampleTrue", spec := "sampleTrue", inPlace := ["math.Float64bits", "math.archFloor", "math.Float64frombits", "math.archTrunc"], unfollowed := true, recurses := true, apart := false }
def SampleTrueSaid : Prop := sampleTrueRow.holds Tryz.pinned (OpenSpec.ofChange sampleTrueSpec)

/-- ITS FALSE NEIGHBOUR: 'it returns false'. Refute it at one input. -/
def sampleTrueWrong : ChangeSpec := { name := "sampleTrue", fn := fun _ => fun
  | [d1, d2, d3, d4, d5, d6] => { results := [.lit (.bool false)], args := [d1, d2, d3, d4, d5, d6] }
  | _ => none }
def SampleTrueWrongFalsely : Prop := sampleTrueRow.holds Tryz.pinned (OpenSpec.ofChange sampleTrueWrong)

/-- 'analemmalaw13.SampleMoves': WHATEVER THE INPUT: true; the input reads as it did. -/
def sampleMovesSpec : ChangeSpec := { name := "sampleMoves", fn := fun _ => fun
  | [d1, d2, d3, d4, d5, d6] => { results := [.lit (.bool true)], args := [d1, d2, d3, d4, d5, d6] }
  | _ => none }
def sampleMovesRow : OpenClaim := { program := "ytlpcoaohgcgkiaagreat", sum := "c4a6a9801c75c2dcdb8d8eabebc8be70f9893f40baaa5f3d28ef70a66662c040", func := "analemma/analemmalaw13.SampleMoves", spec := "sampleMoves", inPlace := ["math.Float64bits", "math.archFloor", "math.Float64frombits", "math.archTrunc"], unfollowed := true, recurses := true, apart := false }
def SampleMovesSaid : Prop := sampleMovesRow.holds Tryz.pinned (OpenSpec.ofChange sampleMovesSpec)

/-- ITS FALSE NEIGHBOUR: 'it returns false'. Refute it at one input. -/
def sampleMovesWrong : ChangeSpec := { name := "sampleMoves", fn := fun _ => fun
  | [d1, d2, d3, d4, d5, d6] => { results := [.lit (.bool false)], args := [d1, d2, d3, d4, d5, d6] }
  | _ => none }
def SampleMovesWrongFalsely : Prop := sampleMovesRow.holds Tryz.pinned (OpenSpec.ofChange sampleMovesWrong)

/- THE SECOND FORM. 'bulk': how many values and letters a reading holds, each counted each time it is reached (what is shared counts as often as it is met; a slice's spare places count too). A statement '..UptoSaid' is the law's where the arguments, and the package variables that the reading takes, are together of bulk at most 1048576: NARROWER than '..Said'. Prove '..Said' where nothing that the law and all that it calls make is longer than what came in: it says more and counts as full. Else prove '..UptoSaid'. A law counts once. -/
mutual
def uptoBulk {H : Type} : DataW H → Nat
  | .lit (.string bytes) => bytes.length + 1
  | .lit _ => 1
  | .nil => 1
  | .ptr d => uptoBulk d + 1
  | .slice elems spare => uptoBulkAll elems + uptoBulkAll spare + 1
  | .agg parts => uptoBulkAll parts + 1
  | .iface _ d => uptoBulk d + 1
  | .map entries => uptoBulkEntries entries + 1
  | .held _ => 1
def uptoBulkAll {H : Type} : List (DataW H) → Nat
  | [] => 0
  | d :: r => uptoBulk d + uptoBulkAll r
def uptoBulkEntries {H : Type} : List (Lit × DataW H) → Nat
  | [] => 0
  | x :: r => uptoBulkEntry x + uptoBulkEntries r
def uptoBulkEntry {H : Type} : Lit × DataW H → Nat
  | (.string bytes, d) => bytes.length + uptoBulk d + 1
  | (_, d) => uptoBulk d + 1
 end
def uptoSmall : (H : Type) → List (DataW H) → Bool := fun _ ds => decide (uptoBulkAll ds ≤ 1048576)
def OpenSpec.upto (s : _root_.Go.ChangeSpec) : _root_.Go.OpenSpec := { _root_.Go.OpenSpec.ofChange s with cond := some uptoSmall }

/-- 'analemmalaw13.SampleMakes', WHERE WHAT IT READS IS OF BULK AT MOST 1048576: true; the input reads as it did. -/
def sampleMakesUptoRow : OpenClaim := { program := "ytlpcoaohgcgkiaagreat", sum := "c4a6a9801c75c2dcdb8d8eabebc8be70f9893f40baaa5f3d28ef70a66662c040", func := "analemma/analemmalaw13.SampleMakes", spec := "sampleMakes", inPlace := ["math.Float64bits", "math.archFloor", "math.Float64frombits", "math.archTrunc"], unfollowed := true, recurses := true, apart := false, narrowed := true }
def SampleMakesUptoSaid : Prop := sampleMakesUptoRow.holds Tryz.pinned (OpenSpec.upto sampleMakesSpec)

/-- 'analemmalaw13.SampleTrue', WHERE WHAT IT READS IS OF BULK AT MOST 1048576: true; the input reads as it did. -/
def sampleTrueUptoRow : OpenClaim := { program := "ytlpcoaohgcgkiaagreat", sum := "c4a6a9801c75c2dcdb8d8eabebc8be70f9893f40baaa5f3d28ef70a66662c040", func := "analemma/analemmalaw13.SampleTrue", spec := "sampleTrue", inPlace := ["math.Float64bits", "math.archFloor", "math.Float64frombits", "math.archTrunc"], unfollowed := true, recurses := true, apart := false, narrowed := true }
def SampleTrueUptoSaid : Prop := sampleTrueUptoRow.holds Tryz.pinned (OpenSpec.upto sampleTrueSpec)

/-- 'analemmalaw13.SampleMoves', WHERE WHAT IT READS IS OF BULK AT MOST 1048576: true; the input reads as it did. -/
def sampleMovesUptoRow : OpenClaim := { program := "ytlpcoaohgcgkiaagreat", sum := "c4a6a9801c75c2dcdb8d8eabebc8be70f9893f40baaa5f3d28ef70a66662c040", func := "analemma/analemmalaw13.SampleMoves", spec := "sampleMoves", inPlace := ["math.Float64bits", "math.archFloor", "math.Float64frombits", "math.archTrunc"], unfollowed := true, recurses := true, apart := false, narrowed := true }
def SampleMovesUptoSaid : Prop := sampleMovesUptoRow.holds Tryz.pinned (OpenSpec.upto sampleMovesSpec)

end Rows
end Go.Proofs.YtlpcoaohgcgkiaaGreat
