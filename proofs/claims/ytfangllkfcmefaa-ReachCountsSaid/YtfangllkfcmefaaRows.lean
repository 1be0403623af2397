/-
  No cell of these rows narrows 'for every input' (looked for: loops, veiled, ifaces, maps, wideKeys, modest, calm, conditions, laid).
  DERIVED. THE GIVEN ROWS OF THIS SEAT. 3 by the template 'for every input the law returns true; each argument reads behind the call as it read before'; 0 by the template 'total and deterministic' (their statements: YtfangllkfcmefaaTotals.lean).
  GIVEN WITH THE SEED: the statements are not yours to turn. If you find one false, say at which input.
  Laid BY PROGRAM, IN A SANDBOX (cutbox-rows.mjs): the forced cells as the released guide's own fill.sh prints them over the translation c182923cfe54b771… (all of the seat's roots in one cut). By AI agents, Wed Nov 11 2026. No macro, syntax, notation, axiom, sorry.
-/
import Derived.Test.YtfangllkfcmefaaChecked
import GoSem.Claim
import GoSem.ClaimJoined
import GoSem.ClaimMapViews
import Derived.JoinedTies
import Derived.KernelRfl
namespace Go.Proofs.Ytfangllkfcmefaa
/- THE CELL 'sum', in the pinned program and in every row, IS THE sha256 OF THE DUMP (.gsa) THAT YtfangllkfcmefaaProg.lean LOADS. Nothing in Lean hashes anything: it is a label: what it is worth is what the hold of that sum in a sandbox is worth. -/
noncomputable def Try.pinned : Pinned := { name := "ytfangllkfcmefaa", sum := "c182923cfe54b77165302be0b014467181ca25acec81571ef483158de85de5db", checked := Try.checked }
namespace Rows
def none {H : Type} : Left H := { results := [], args := [] }

/-- 'analemmalaw11.ReachSlow': WHATEVER THE INPUT: true; the input reads as it did. -/
def reachSlowSpec : ChangeSpec := { name := "reachSlow", fn := fun _ => fun
  | [d1, d2, d3] => { results := [.lit (.bool true)], args := [d1, d2, d3] }
  | _ => none }
def reachSlowRow : OpenClaim := { program := "ytfangllkfcmefaa", sum := "c182923cfe54b77165302be0b014467181ca25acec81571ef483158de85de5db", func := "analemma/analemmalaw11.ReachSlow", spec := "reachSlow", inPlace := ["math.Float64bits", "math.archFloor", "math.Float64frombits", "math.archTrunc"], unfollowed := true, recurses := true, apart := false }
def ReachSlowSaid : Prop := reachSlowRow.holds Try.pinned (OpenSpec.ofChange reachSlowSpec)

/-- ITS FALSE NEIGHBOUR: 'it returns false'. Refute it at one input. -/
def reachSlowWrong : ChangeSpec := { name := "reachSlow", fn := fun _ => fun
  | [d1, d2, d3] => { results := [.lit (.bool false)], args := [d1, d2, d3] }
  | _ => none }
def ReachSlowWrongFalsely : Prop := reachSlowRow.holds Try.pinned (OpenSpec.ofChange reachSlowWrong)

/-- 'analemmalaw11.ReachSilent': WHATEVER THE INPUT: true; the input reads as it did. -/
def reachSilentSpec : ChangeSpec := { name := "reachSilent", fn := fun _ => fun
  | [d1, d2] => { results := [.lit (.bool true)], args := [d1, d2] }
  | _ => none }
def reachSilentRow : OpenClaim := { program := "ytfangllkfcmefaa", sum := "c182923cfe54b77165302be0b014467181ca25acec81571ef483158de85de5db", func := "analemma/analemmalaw11.ReachSilent", spec := "reachSilent", inPlace := ["math.Float64bits", "math.archFloor", "math.Float64frombits", "math.archTrunc"], unfollowed := true, recurses := true, apart := false }
def ReachSilentSaid : Prop := reachSilentRow.holds Try.pinned (OpenSpec.ofChange reachSilentSpec)

/-- ITS FALSE NEIGHBOUR: 'it returns false'. Refute it at one input. -/
def reachSilentWrong : ChangeSpec := { name := "reachSilent", fn := fun _ => fun
  | [d1, d2] => { results := [.lit (.bool false)], args := [d1, d2] }
  | _ => none }
def ReachSilentWrongFalsely : Prop := reachSilentRow.holds Try.pinned (OpenSpec.ofChange reachSilentWrong)

/-- 'analemmalaw11.ReachCounts': WHATEVER THE INPUT: true; the input reads as it did. -/
def reachCountsSpec : ChangeSpec := { name := "reachCounts", fn := fun _ => fun
  | [d1, d2] => { results := [.lit (.bool true)], args := [d1, d2] }
  | _ => none }
def reachCountsRow : OpenClaim := { program := "ytfangllkfcmefaa", sum := "c182923cfe54b77165302be0b014467181ca25acec81571ef483158de85de5db", func := "analemma/analemmalaw11.ReachCounts", spec := "reachCounts", inPlace := ["math.Float64bits", "math.archFloor", "math.Float64frombits", "math.archTrunc"], unfollowed := true, recurses := true, apart := false }
def ReachCountsSaid : Prop := reachCountsRow.holds Try.pinned (OpenSpec.ofChange reachCountsSpec)

/-- ITS FALSE NEIGHBOUR: 'it returns false'. Refute it at one input. -/
def reachCountsWrong : ChangeSpec := { name := "reachCounts", fn := fun _ => fun
  | [d1, d2] => { results := [.lit (.bool false)], args := [d1, d2] }
  | _ => none }
def ReachCountsWrongFalsely : Prop := reachCountsRow.holds Try.pinned (OpenSpec.ofChange reachCountsWrong)

/- THE SECOND FORM. 'bulk': how many values and letters a reading holds, each counted each time it is reached (what is shared counts as often as it is met; a slice's spare places count too). A statement '..UptoSaid' is the law's where the arguments, and the package variables that the reading takes, are together of bulk at most 1048576: NARROWER than '..Said'. Prove '..Said' where nothing that the law and all that it calls make is longer than what came in: it says more and counts as full. Else prove '..UptoSaid'. A law counts once. -/
mutual
def uptoBulk {H : Type} : DataW H → Nat
  | .lit (.string bytes) => bytes.length + 1
  | .lit _ => 1
  | .nil => 1
  | .ptr d => uptoBulk d + 1
  | .slice elems spare => uptoBulkAll elems + uptoBulkAll spare + 1
  | .agg parts => uptoBulkAll parts + 1
  | .iface _ d => uptoBulk d + 1
  | .map entries => uptoBulkEntries entries + 1
  | .held _ => 1
def uptoBulkAll {H : Type} : List (DataW H) → Nat
  | [] => 0
  | d :: r => uptoBulk d + uptoBulkAll r
def uptoBulkEntries {H : Type} : List (Lit × DataW H) → Nat
  | [] => 0
  | x :: r => uptoBulkEntry x + uptoBulkEntries r
def uptoBulkEntry {H : Type} : Lit × DataW H → Nat
  | (.string bytes, d) => bytes.length + uptoBulk d + 1
  | (_, d) => uptoBulk d + 1
 end
def uptoSmall : (H : Type) → List (DataW H) → Bool := fun _ ds => decide (uptoBulkAll ds ≤ 1048576)
def OpenSpec.upto (s : _root_.Go.ChangeSpec) : _root_.Go.OpenSpec := { _root_.Go.OpenSpec.ofChange s with cond := some uptoSmall }

/-- 'analemmalaw11.ReachSlow', WHERE WHAT IT READS IS OF BULK AT MOST 1048576: true; the input reads as it did. -/
def reachSlowUptoRow : OpenClaim := { program := "ytfangllkfcmefaa", sum := "c182923cfe54b77165302be0b014467181ca25acec81571ef483158de85de5db", func := "analemma/analemmalaw11.ReachSlow", spec := "reachSlow", inPlace := ["math.Float64bits", "math.archFloor", "math.Float64frombits", "math.archTrunc"], unfollowed := true, recurses := true, apart := false, narrowed := true }
def ReachSlowUptoSaid : Prop := reachSlowUptoRow.holds Try.pinned (OpenSpec.upto reachSlowSpec)

/-- 'analemmalaw11.ReachSilent', WHERE WHAT IT READS IS OF BULK AT MOST 1048576: true; the input reads as it did. -/
def reachSilentUptoRow : OpenClaim := { program := "ytfangllkfcmefaa", sum := "c182923cfe54b77165302be0b014467181ca25acec81571ef483158de85de5db", func := "analemma/analemmalaw11.ReachSilent", spec := "reachSilent", inPlace := ["math.Float64bits", "math.archFloor", "math.Float64frombits", "math.archTrunc"], unfollowed := true, recurses := true, apart := false, narrowed := true }
def ReachSilentUptoSaid : Prop := reachSilentUptoRow.holds Try.pinned (OpenSpec.upto reachSilentSpec)

/-- 'analemmalaw11.ReachCounts', WHERE WHAT IT READS IS OF BULK AT MOST 1048576: true; the input reads as it did. -/
def reachCountsUptoRow : OpenClaim := { program := "ytfangllkfcmefaa", sum := "c182923cfe54b77165302be0b014467181ca25acec81571ef483158de85de5db", func := "analemma/analemmalaw11.ReachCounts", spec := "reachCounts", inPlace := ["math.Float64bits", "math.archFloor", "math.Float64frombits", "math.archTrunc"], unfollowed := true, recurses := true, apart := false, narrowed := true }
def ReachCountsUptoSaid : Prop := reachCountsUptoRow.holds Try.pinned (OpenSpec.upto reachCountsSpec)

end Rows
end Go.Proofs.Ytfangllkfcmefaa
