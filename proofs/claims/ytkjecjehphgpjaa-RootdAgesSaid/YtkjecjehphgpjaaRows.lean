/-
  No cell of these rows narrows 'for every input' (looked for: loops, veiled, ifaces, maps, wideKeys, modest, calm, conditions, laid).
  DERIVED. THE GIVEN ROWS OF THIS SEAT. 3 by the template 'for every input the law returns true; each argument reads behind the call as it read before'; 0 by the template 'total and deterministic' (their statements: YtkjecjehphgpjaaTotals.lean).
  GIVEN WITH THE SEED: the statements are not yours to turn. If you find one false, say at which input.
  Laid BY PROGRAM, IN A SANDBOX (cutbox-rows.mjs): the forced cells as the released guide's own fill.sh prints them over the translation 24550dcbc0ae4ee5… (all of the seat's roots in one cut). By AI agents, Wed Nov 11 2026. No macro, syntax, notation, axiom, sorry.
-/
import Derived.Test.YtkjecjehphgpjaaChecked
import GoSem.Claim
import GoSem.ClaimJoined
import GoSem.ClaimMapViews
import Derived.JoinedTies
import Derived.KernelRfl
namespace Go.Proofs.Ytkjecjehphgpjaa
/- THE CELL 'sum', in the pinned program and in every row, IS THE sha256 OF THE DUMP (.gsa) THAT YtkjecjehphgpjaaProg.lean LOADS. Nothing in Lean hashes anything: it is a label: what it is worth is what the hold of that sum in a sandbox is worth. -/
noncomputable def Try.pinned : Pinned := { name := "ytkjecjehphgpjaa", sum := "24550dcbc0ae4ee564f55e7d954cc5a59d010780cd8cb7a11b42b72d0b0fb755", checked := Try.checked }
namespace Rows
def none {H : Type} : Left H := { results := [], args := [] }

/-- 'analemmalaw15.RootdAges': WHATEVER THE INPUT: true; the input reads as it did. -/
def rootdAgesSpec : ChangeSpec := { name := "rootdAges", fn := fun _ => fun
  | [d1, d2, d3] => { results := [.lit (.bool true)], args := [d1, d2, d3] }
  | _ => none }
def rootdAgesRow : OpenClaim := { program := "ytkjecjehphgpjaa", sum := "24550dcbc0ae4ee564f55e7d954cc5a59d010780cd8cb7a11b42b72d0b0fb755", func := "analemma/analemmalaw15.RootdAges", spec := "rootdAges", inPlace := ["math.Float64bits", "math.archFloor", "math.Float64frombits", "math.archTrunc"], unfollowed := true, recurses := true, apart := false }
def RootdAgesSaid : Prop := rootdAgesRow.holds Try.pinned (OpenSpec.ofChange rootdAgesSpec)

/-- ITS FALSE NEIGHBOUR: 'it returns false'. Refute it at one input. -/
def rootdAgesWrong : ChangeSpec := { name := "rootdAges", fn := fun _ => fun
  | [d1, d2, d3] => { results := [.lit (.bool false)], args := [d1, d2, d3] }
  | _ => none }
def RootdAgesWrongFalsely : Prop := rootdAgesRow.holds Try.pinned (OpenSpec.ofChange rootdAgesWrong)

/-- 'analemmalaw15.RootdFits': WHATEVER THE INPUT: true; the input reads as it did. -/
def rootdFitsSpec : ChangeSpec := { name := "rootdFits", fn := fun _ => fun
  | [d1, d2, d3, d4] => { results := [.lit (.bool true)], args := [d1, d2, d3, d4] }
  | _ => none }
def rootdFitsRow : OpenClaim := { program := "ytkjecjehphgpjaa", sum := "24550dcbc0ae4ee564f55e7d954cc5a59d010780cd8cb7a11b42b72d0b0fb755", func := "analemma/analemmalaw15.RootdFits", spec := "rootdFits", inPlace := ["math.Float64bits", "math.archFloor", "math.Float64frombits", "math.archTrunc"], unfollowed := true, recurses := true, apart := false }
def RootdFitsSaid : Prop := rootdFitsRow.holds Try.pinned (OpenSpec.ofChange rootdFitsSpec)

/-- ITS FALSE NEIGHBOUR: 'it returns false'. Refute it at one input. -/
def rootdFitsWrong : ChangeSpec := { name := "rootdFits", fn := fun _ => fun
  | [d1, d2, d3, d4] => { results := [.lit (.bool false)], args := [d1, d2, d3, d4] }
  | _ => none }
def RootdFitsWrongFalsely : Prop := rootdFitsRow.holds Try.pinned (OpenSpec.ofChange rootdFitsWrong)

/-- 'analemmalaw15.RootdSpans': WHATEVER THE INPUT: true; the input reads as it did. -/
def rootdSpansSpec : ChangeSpec := { name := "rootdSpans", fn := fun _ => fun
  | [d1, d2, d3] => { results := [.lit (.bool true)], args := [d1, d2, d3] }
  | _ => none }
def rootdSpansRow : OpenClaim := { program := "ytkjecjehphgpjaa", sum := "24550dcbc0ae4ee564f55e7d954cc5a59d010780cd8cb7a11b42b72d0b0fb755", func := "analemma/analemmalaw15.RootdSpans", spec := "rootdSpans", inPlace := ["math.Float64bits", "math.archFloor", "math.Float64frombits", "math.archTrunc"], unfollowed := true, recurses := true, apart := false }
def RootdSpansSaid : Prop := rootdSpansRow.holds Try.pinned (OpenSpec.ofChange rootdSpansSpec)

/-- ITS FALSE NEIGHBOUR: 'it returns false'. Refute it at one input. -/
def rootdSpansWrong : ChangeSpec := { name := "rootdSpans", fn := fun _ => fun
  | [d1, d2, d3] => { results := [.lit (.bool false)], args := [d1, d2, d3] }
  | _ => none }
def RootdSpansWrongFalsely : Prop := rootdSpansRow.holds Try.pinned (OpenSpec.ofChange rootdSpansWrong)

/- THE SECOND FORM. 'bulk': how many values and letters a reading holds, each counted each time it is reached (what is shared counts as often as it is met; a slice's spare places count too). A statement '..UptoSaid' is the law's where the arguments, and the package variables that the reading takes, are together of bulk at most 1048576: NARROWER than '..Said'. Prove '..Said' where nothing that the law and all that it calls make is longer than what came in: it says more and counts as full. Else prove '..UptoSaid'. A law counts once. -/
mutual
def uptoBulk {H : Type} : DataW H → Nat
  | .lit (.string bytes) => bytes.length + 1
  | .lit _ => 1
  | .nil => 1
  | .ptr d => uptoBulk d + 1
  | .slice elems spare => uptoBulkAll elems + uptoBulkAll spare + 1
  | .agg parts => uptoBulkAll parts + 1
  | .iface _ d => uptoBulk d + 1
  | .map entries => uptoBulkEntries entries + 1
  | .held _ => 1
def uptoBulkAll {H : Type} : List (DataW H) → Nat
  | [] => 0
  | d :: r => uptoBulk d + uptoBulkAll r
def uptoBulkEntries {H : Type} : List (Lit × DataW H) → Nat
  | [] => 0
  | x :: r => uptoBulkEntry x + uptoBulkEntries r
def uptoBulkEntry {H : Type} : Lit × DataW H → Nat
  | (.string bytes, d) => bytes.length + uptoBulk d + 1
  | (_, d) => uptoBulk d + 1
 end
def uptoSmall : (H : Type) → List (DataW H) → Bool := fun _ ds => decide (uptoBulkAll ds ≤ 1048576)
def OpenSpec.upto (s : _root_.Go.ChangeSpec) : _root_.Go.OpenSpec := { _root_.Go.OpenSpec.ofChange s with cond := some uptoSmall }

/-- 'analemmalaw15.RootdAges', WHERE WHAT IT READS IS OF BULK AT MOST 1048576: true; the input reads as it did. -/
def rootdAgesUptoRow : OpenClaim := { program := "ytkjecjehphgpjaa", sum := "24550dcbc0ae4ee564f55e7d954cc5a59d010780cd8cb7a11b42b72d0b0fb755", func := "analemma/analemmalaw15.RootdAges", spec := "rootdAges", inPlace := ["math.Float64bits", "math.archFloor", "math.Float64frombits", "math.archTrunc"], unfollowed := true, recurses := true, apart := false, narrowed := true }
def RootdAgesUptoSaid : Prop := rootdAgesUptoRow.holds Try.pinned (OpenSpec.upto rootdAgesSpec)

/-- 'analemmalaw15.RootdFits', WHERE WHAT IT READS IS OF BULK AT MOST 1048576: true; the input reads as it did. -/
def rootdFitsUptoRow : OpenClaim := { program := "ytkjecjehphgpjaa", sum := "24550dcbc0ae4ee564f55e7d954cc5a59d010780cd8cb7a11b42b72d0b0fb755", func := "analemma/analemmalaw15.RootdFits", spec := "rootdFits", inPlace := ["math.Float64bits", "math.archFloor", "math.Float64frombits", "math.archTrunc"], unfollowed := true, recurses := true, apart := false, narrowed := true }
def RootdFitsUptoSaid : Prop := rootdFitsUptoRow.holds Try.pinned (OpenSpec.upto rootdFitsSpec)

/-- 'analemmalaw15.RootdSpans', WHERE WHAT IT READS IS OF BULK AT MOST 1048576: true; the input reads as it did. -/
def rootdSpansUptoRow : OpenClaim := { program := "ytkjecjehphgpjaa", sum := "24550dcbc0ae4ee564f55e7d954cc5a59d010780cd8cb7a11b42b72d0b0fb755", func := "analemma/analemmalaw15.RootdSpans", spec := "rootdSpans", inPlace := ["math.Float64bits", "math.archFloor", "math.Float64frombits", "math.archTrunc"], unfollowed := true, recurses := true, apart := false, narrowed := true }
def RootdSpansUptoSaid : Prop := rootdSpansUptoRow.holds Try.pinned (OpenSpec.upto rootdSpansSpec)

end Rows
end Go.Proofs.Ytkjecjehphgpjaa
