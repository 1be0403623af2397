/-
  No cell of these rows narrows 'for every input' (looked for: loops, veiled, ifaces, maps, wideKeys, modest, calm, conditions, laid).
  DERIVED. THE GIVEN ROWS OF THIS SEAT. 5 by the template 'for every input the law returns true; each argument reads behind the call as it read before'; 0 by the template 'total and deterministic' (their statements: YtiadaaihlimloaaGreatTotals.lean).
  GIVEN WITH THE SEED: the statements are not yours to turn. If you find one false, say at which input.
  Laid BY PROGRAM, IN A SANDBOX (cutbox-rows.mjs): the forced cells as the released guide's own fill.sh prints them over the translation 4019552dfb0ef760… (all of the seat's roots in one cut). By AI agents, Wed Nov 11 2026. No macro, syntax, notation, axiom, sorry.
-/
import Derived.Test.YtiadaaihlimloaaGreatChecked
import GoSem.Claim
import GoSem.ClaimJoined
import GoSem.ClaimMapViews
import Derived.JoinedTies
import Derived.KernelRfl
namespace Go.Proofs.YtiadaaihlimloaaGreat
/- THE CELL 'sum', in the pinned program and in every row, IS THE sha256 OF THE DUMP (.gsa) THAT YtiadaaihlimloaaGreatProg.lean LOADS. Nothing in Lean hashes anything: it is a label: what it is worth is what the hold of that sum in a sandbox is worth. -/
noncomputable def Tryz.pinned : Pinned := { name := "ytiadaaihlimloaagreat", sum := "4019552dfb0ef76055bf4127fb8d4affb9d8fb6810a78f289b20e607ad86a51e", checked := Tryz.checked }
namespace Rows
def none {H : Type} : Left H := { results := [], args := [] }

/-- 'analemmalaw14.FilterOnce': WHATEVER THE INPUT: true; the input reads as it did. -/
def filterOnceSpec : ChangeSpec := { name := "filterOnce", fn := fun _ => fun
  | [d1, d2] => { results := [.lit (.bool true)], args := [d1, d2] }
  | _ => none }
def filterOnceRow : OpenClaim := { program := "ytiadaaihlimloaagreat", sum := "4019552dfb0ef76055bf4127fb8d4affb9d8fb6810a78f289b20e607ad86a51e", func := "analemma/analemmalaw14.FilterOnce", spec := "filterOnce", inPlace := ["math.Float64bits", "math.archFloor", "math.Float64frombits", "math.archTrunc"], unfollowed := true, recurses := true, apart := false }
def FilterOnceSaid : Prop := filterOnceRow.holds Tryz.pinned (OpenSpec.ofChange filterOnceSpec)

/-- ITS FALSE NEIGHBOUR: 'it returns false'. Refute it at one input. -/
def filterOnceWrong : ChangeSpec := { name := "filterOnce", fn := fun _ => fun
  | [d1, d2] => { results := [.lit (.bool false)], args := [d1, d2] }
  | _ => none }
def FilterOnceWrongFalsely : Prop := filterOnceRow.holds Tryz.pinned (OpenSpec.ofChange filterOnceWrong)

/-- 'analemmalaw14.FilterLeast': WHATEVER THE INPUT: true; the input reads as it did. -/
def filterLeastSpec : ChangeSpec := { name := "filterLeast", fn := fun _ => fun
  | [d1, d2, d3] => { results := [.lit (.bool true)], args := [d1, d2, d3] }
  | _ => none }
def filterLeastRow : OpenClaim := { program := "ytiadaaihlimloaagreat", sum := "4019552dfb0ef76055bf4127fb8d4affb9d8fb6810a78f289b20e607ad86a51e", func := "analemma/analemmalaw14.FilterLeast", spec := "filterLeast", inPlace := ["math.Float64bits", "math.archFloor", "math.Float64frombits", "math.archTrunc"], unfollowed := true, recurses := true, apart := false }
def FilterLeastSaid : Prop := filterLeastRow.holds Tryz.pinned (OpenSpec.ofChange filterLeastSpec)

/-- ITS FALSE NEIGHBOUR: 'it returns false'. Refute it at one input. -/
def filterLeastWrong : ChangeSpec := { name := "filterLeast", fn := fun _ => fun
  | [d1, d2, d3] => { results := [.lit (.bool false)], args := [d1, d2, d3] }
  | _ => none }
def FilterLeastWrongFalsely : Prop := filterLeastRow.holds Tryz.pinned (OpenSpec.ofChange filterLeastWrong)

/-- 'analemmalaw14.FilterQuiet': WHATEVER THE INPUT: true; the input reads as it did. -/
def filterQuietSpec : ChangeSpec := { name := "filterQuiet", fn := fun _ => fun
  | [d1, d2, d3, d4] => { results := [.lit (.bool true)], args := [d1, d2, d3, d4] }
  | _ => none }
def filterQuietRow : OpenClaim := { program := "ytiadaaihlimloaagreat", sum := "4019552dfb0ef76055bf4127fb8d4affb9d8fb6810a78f289b20e607ad86a51e", func := "analemma/analemmalaw14.FilterQuiet", spec := "filterQuiet", inPlace := ["math.Float64bits", "math.archFloor", "math.Float64frombits", "math.archTrunc"], unfollowed := true, recurses := true, apart := false }
def FilterQuietSaid : Prop := filterQuietRow.holds Tryz.pinned (OpenSpec.ofChange filterQuietSpec)

/-- ITS FALSE NEIGHBOUR: 'it returns false'. Refute it at one input. -/
def filterQuietWrong : ChangeSpec := { name := "filterQuiet", fn := fun _ => fun
  | [d1, d2, d3, d4] => { results := [.lit (.bool false)], args := [d1, d2, d3, d4] }
  | _ => none }
def FilterQuietWrongFalsely : Prop := filterQuietRow.holds Tryz.pinned (OpenSpec.ofChange filterQuietWrong)

/-- 'analemmalaw14.FilterEight': WHATEVER THE INPUT: true; the input reads as it did. -/
def filterEightSpec : ChangeSpec := { name := "filterEight", fn := fun _ => fun
  | [d1, d2, d3] => { results := [.lit (.bool true)], args := [d1, d2, d3] }
  | _ => none }
def filterEightRow : OpenClaim := { program := "ytiadaaihlimloaagreat", sum := "4019552dfb0ef76055bf4127fb8d4affb9d8fb6810a78f289b20e607ad86a51e", func := "analemma/analemmalaw14.FilterEight", spec := "filterEight", inPlace := ["math.Float64bits", "math.archFloor", "math.Float64frombits", "math.archTrunc"], unfollowed := true, recurses := true, apart := false }
def FilterEightSaid : Prop := filterEightRow.holds Tryz.pinned (OpenSpec.ofChange filterEightSpec)

/-- ITS FALSE NEIGHBOUR: 'it returns false'. Refute it at one input. -/
def filterEightWrong : ChangeSpec := { name := "filterEight", fn := fun _ => fun
  | [d1, d2, d3] => { results := [.lit (.bool false)], args := [d1, d2, d3] }
  | _ => none }
def FilterEightWrongFalsely : Prop := filterEightRow.holds Tryz.pinned (OpenSpec.ofChange filterEightWrong)

/-- 'analemmalaw14.FilterSpikes': WHATEVER THE INPUT: true; the input reads as it did. -/
def filterSpikesSpec : ChangeSpec := { name := "filterSpikes", fn := fun _ => fun
  | [d1, d2, d3, d4] => { results := [.lit (.bool true)], args := [d1, d2, d3, d4] }
  | _ => none }
def filterSpikesRow : OpenClaim := { program := "ytiadaaihlimloaagreat", sum := "4019552dfb0ef76055bf4127fb8d4affb9d8fb6810a78f289b20e607ad86a51e", func := "analemma/analemmalaw14.FilterSpikes", spec := "filterSpikes", inPlace := ["math.Float64bits", "math.archFloor", "math.Float64frombits", "math.archTrunc"], unfollowed := true, recurses := true, apart := false }
def FilterSpikesSaid : Prop := filterSpikesRow.holds Tryz.pinned (OpenSpec.ofChange filterSpikesSpec)

/-- ITS FALSE NEIGHBOUR: 'it returns false'. Refute it at one input. -/
def filterSpikesWrong : ChangeSpec := { name := "filterSpikes", fn := fun _ => fun
  | [d1, d2, d3, d4] => { results := [.lit (.bool false)], args := [d1, d2, d3, d4] }
  | _ => none }
def FilterSpikesWrongFalsely : Prop := filterSpikesRow.holds Tryz.pinned (OpenSpec.ofChange filterSpikesWrong)

/- THE SECOND FORM. 'bulk': how many values and letters a reading holds, each counted each time it is reached (what is shared counts as often as it is met; a slice's spare places count too). A statement '..UptoSaid' is the law's where the arguments, and the package variables that the reading takes, are together of bulk at most 1048576: NARROWER than '..Said'. Prove '..Said' where nothing that the law and all that it calls make is longer than what came in: it says more and counts as full. Else prove '..UptoSaid'. A law counts once. -/
mutual
def uptoBulk {H : Type} : DataW H → Nat
  | .lit (.string bytes) => bytes.length + 1
  | .lit _ => 1
  | .nil => 1
  | .ptr d => uptoBulk d + 1
  | .slice elems spare => uptoBulkAll elems + uptoBulkAll spare + 1
  | .agg parts => uptoBulkAll parts + 1
  | .iface _ d => uptoBulk d + 1
  | .map entries => uptoBulkEntries entries + 1
  | .held _ => 1
def uptoBulkAll {H : Type} : List (DataW H) → Nat
  | [] => 0
  | d :: r => uptoBulk d + uptoBulkAll r
def uptoBulkEntries {H : Type} : List (Lit × DataW H) → Nat
  | [] => 0
  | x :: r => uptoBulkEntry x + uptoBulkEntries r
def uptoBulkEntry {H : Type} : Lit × DataW H → Nat
  | (.string bytes, d) => bytes.length + uptoBulk d + 1
  | (_, d) => uptoBulk d + 1
 end
def uptoSmall : (H : Type) → List (DataW H) → Bool := fun _ ds => decide (uptoBulkAll ds ≤ 1048576)
def OpenSpec.upto (s : _root_.Go.ChangeSpec) : _root_.Go.OpenSpec := { _root_.Go.OpenSpec.ofChange s with cond := some uptoSmall }

/-- 'analemmalaw14.FilterOnce', WHERE WHAT IT READS IS OF BULK AT MOST 1048576: true; the input reads as it did. -/
def filterOnceUptoRow : OpenClaim := { program := "ytiadaaihlimloaagreat", sum := "4019552dfb0ef76055bf4127fb8d4affb9d8fb6810a78f289b20e607ad86a51e", func := "analemma/analemmalaw14.FilterOnce", spec := "filterOnce", inPlace := ["math.Float64bits", "math.archFloor", "math.Float64frombits", "math.archTrunc"], unfollowed := true, recurses := true, apart := false, narrowed := true }
def FilterOnceUptoSaid : Prop := filterOnceUptoRow.holds Tryz.pinned (OpenSpec.upto filterOnceSpec)

/-- 'analemmalaw14.FilterLeast', WHERE WHAT IT READS IS OF BULK AT MOST 1048576: true; the input reads as it did. -/
def filterLeastUptoRow : OpenClaim := { program := "ytiadaaihlimloaagreat", sum := "4019552dfb0ef76055bf4127fb8d4affb9d8fb6810a78f289b20e607ad86a51e", func := "analemma/analemmalaw14.FilterLeast", spec := "filterLeast", inPlace := ["math.Float64bits", "math.archFloor", "math.Float64frombits", "math.archTrunc"], unfollowed := true, recurses := true, apart := false, narrowed := true }
def FilterLeastUptoSaid : Prop := filterLeastUptoRow.holds Tryz.pinned (OpenSpec.upto filterLeastSpec)

/-- 'analemmalaw14.FilterQuiet', WHERE WHAT IT READS IS OF BULK AT MOST 1048576: true; the input reads as it did. -/
def filterQuietUptoRow : OpenClaim := { program := "ytiadaaihlimloaagreat", sum := "4019552dfb0ef76055bf4127fb8d4affb9d8fb6810a78f289b20e607ad86a51e", func := "analemma/analemmalaw14.FilterQuiet", spec := "filterQuiet", inPlace := ["math.Float64bits", "math.archFloor", "math.Float64frombits", "math.archTrunc"], unfollowed := true, recurses := true, apart := false, narrowed := true }
def FilterQuietUptoSaid : Prop := filterQuietUptoRow.holds Tryz.pinned (OpenSpec.upto filterQuietSpec)

/-- 'analemmalaw14.FilterEight', WHERE WHAT IT READS IS OF BULK AT MOST 1048576: true; the input reads as it did. -/
def filterEightUptoRow : OpenClaim := { program := "ytiadaaihlimloaagreat", sum := "4019552dfb0ef76055bf4127fb8d4affb9d8fb6810a78f289b20e607ad86a51e", func := "analemma/analemmalaw14.FilterEight", spec := "filterEight", inPlace := ["math.Float64bits", "math.archFloor", "math.Float64frombits", "math.archTrunc"], unfollowed := true, recurses := true, apart := false, narrowed := true }
def FilterEightUptoSaid : Prop := filterEightUptoRow.holds Tryz.pinned (OpenSpec.upto filterEightSpec)

/-- 'analemmalaw14.FilterSpikes', WHERE WHAT IT READS IS OF BULK AT MOST 1048576: true; the input reads as it did. -/
def filterSpikesUptoRow : OpenClaim := { program := "ytiadaaihlimloaagreat", sum := "4019552dfb0ef76055bf4127fb8d4affb9d8fb6810a78f289b20e607ad86a51e", func := "analemma/analemmalaw14.FilterSpikes", spec := "filterSpikes", inPlace := ["math.Float64bits", "math.archFloor", "math.Float64frombits", "math.archTrunc"], unfollowed := true, recurses := true, apart := false, narrowed := true }
def FilterSpikesUptoSaid : Prop := filterSpikesUptoRow.holds Tryz.pinned (OpenSpec.upto filterSpikesSpec)

end Rows
end Go.Proofs.YtiadaaihlimloaaGreat
