/-
  No cell of these rows narrows 'for every input' (looked for: loops, veiled, ifaces, maps, wideKeys, modest, calm, conditions, laid).
  DERIVED. THE GIVEN ROWS OF THIS SEAT. 4 by the template 'for every input the law returns true; each argument reads behind the call as it read before'; 0 by the template 'total and deterministic' (their statements: YtekdablolacgfaaTotals.lean).
  GIVEN WITH THE SEED: the statements are not yours to turn. If you find one false, say at which input.
  Laid BY PROGRAM, IN A SANDBOX (cutbox-rows.mjs): the forced cells as the released guide's own fill.sh prints them over the translation 7a38e7a4132766b9… (all of the seat's roots in one cut). By AI agents, Wed Nov 11 2026. No macro, syntax, notation, axiom, sorry.
-/
import Derived.Test.YtekdablolacgfaaChecked
import GoSem.Claim
import GoSem.ClaimJoined
import GoSem.ClaimMapViews
import Derived.JoinedTies
import Derived.KernelRfl
namespace Go.Proofs.Ytekdablolacgfaa
/- THE CELL 'sum', in the pinned program and in every row, IS THE sha256 OF THE DUMP (.gsa) THAT YtekdablolacgfaaProg.lean LOADS. Nothing in Lean hashes anything: it is a label: what it is worth is what the hold of that sum in a sandbox is worth. -/
noncomputable def Try.pinned : Pinned := { name := "ytekdablolacgfaa", sum := "7a38e7a4132766b9f02dce95392ea3a17dc09035214e2e279ba0029ec54161e3", checked := Try.checked }
namespace Rows
def none {H : Type} : Left H := { results := [], args := [] }

/-- 'analemmalaw18.CombineMeans': WHATEVER THE INPUT: true; the input reads as it did. -/
def combineMeansSpec : ChangeSpec := { name := "combineMeans", fn := fun _ => fun
  | [d1, d2, d3, d4, d5] => { results := [.lit (.bool true)], args := [d1, d2, d3, d4, d5] }
  | _ => none }
def combineMeansRow : OpenClaim := { program := "ytekdablolacgfaa", sum := "7a38e7a4132766b9f02dce95392ea3a17dc09035214e2e279ba0029ec54161e3", func := "analemma/analemmalaw18.CombineMeans", spec := "combineMeans", unfollowed := true, recurses := true, apart := false }
def CombineMeansSaid : Prop := combineMeansRow.holds Try.pinned (OpenSpec.ofChange combineMeansSpec)

/-- ITS FALSE NEIGHBOUR: 'it returns false'. Refute it at one input. -/
def combineMeansWrong : ChangeSpec := { name := "combineMeans", fn := fun _ => fun
  | [d1, d2, d3, d4, d5] => { results := [.lit (.bool false)], args := [d1, d2, d3, d4, d5] }
  | _ => none }
def CombineMeansWrongFalsely : Prop := combineMeansRow.holds Try.pinned (OpenSpec.ofChange combineMeansWrong)

/-- 'analemmalaw18.CombineTells': WHATEVER THE INPUT: true; the input reads as it did. -/
def combineTellsSpec : ChangeSpec := { name := "combineTells", fn := fun _ => fun
  | [d1, d2, d3, d4, d5, d6, d7] => { results := [.lit (.bool true)], args := [d1, d2, d3, d4, d5, d6, d7] }
  | _ => none }
def combineTellsRow : OpenClaim := { program := "ytekdablolacgfaa", sum := "7a38e7a4132766b9f02dce95392ea3a17dc09035214e2e279ba0029ec54161e3", func := "analemma/analemmalaw18.CombineTells", spec := "combineTells", unfollowed := true, recurses := true, apart := false }
def CombineTellsSaid : Prop := combineTellsRow.holds Try.pinned (OpenSpec.ofChange combineTellsSpec)

/-- ITS FALSE NEIGHBOUR: 'it returns false'. Refute it at one input. -/
def combineTellsWrong : ChangeSpec := { name := "combineTells", fn := fun _ => fun
  | [d1, d2, d3, d4, d5, d6, d7] => { results := [.lit (.bool false)], args := [d1, d2, d3, d4, d5, d6, d7] }
  | _ => none }
def CombineTellsWrongFalsely : Prop := combineTellsRow.holds Try.pinned (OpenSpec.ofChange combineTellsWrong)

/-- 'analemmalaw18.CombineWithin': WHATEVER THE INPUT: true; the input reads as it did. -/
def combineWithinSpec : ChangeSpec := { name := "combineWithin", fn := fun _ => fun
  | [d1, d2, d3, d4, d5, d6] => { results := [.lit (.bool true)], args := [d1, d2, d3, d4, d5, d6] }
  | _ => none }
def combineWithinRow : OpenClaim := { program := "ytekdablolacgfaa", sum := "7a38e7a4132766b9f02dce95392ea3a17dc09035214e2e279ba0029ec54161e3", func := "analemma/analemmalaw18.CombineWithin", spec := "combineWithin", unfollowed := true, recurses := true, apart := false }
def CombineWithinSaid : Prop := combineWithinRow.holds Try.pinned (OpenSpec.ofChange combineWithinSpec)

/-- ITS FALSE NEIGHBOUR: 'it returns false'. Refute it at one input. -/
def combineWithinWrong : ChangeSpec := { name := "combineWithin", fn := fun _ => fun
  | [d1, d2, d3, d4, d5, d6] => { results := [.lit (.bool false)], args := [d1, d2, d3, d4, d5, d6] }
  | _ => none }
def CombineWithinWrongFalsely : Prop := combineWithinRow.holds Try.pinned (OpenSpec.ofChange combineWithinWrong)

/-- 'analemmalaw18.CombineNear': WHATEVER THE INPUT: true; the input reads as it did. -/
def combineNearSpec : ChangeSpec := { name := "combineNear", fn := fun _ => fun
  | [d1, d2, d3, d4] => { results := [.lit (.bool true)], args := [d1, d2, d3, d4] }
  | _ => none }
def combineNearRow : OpenClaim := { program := "ytekdablolacgfaa", sum := "7a38e7a4132766b9f02dce95392ea3a17dc09035214e2e279ba0029ec54161e3", func := "analemma/analemmalaw18.CombineNear", spec := "combineNear", unfollowed := true, recurses := true, apart := false }
def CombineNearSaid : Prop := combineNearRow.holds Try.pinned (OpenSpec.ofChange combineNearSpec)

/-- ITS FALSE NEIGHBOUR: 'it returns false'. Refute it at one input. -/
def combineNearWrong : ChangeSpec := { name := "combineNear", fn := fun _ => fun
  | [d1, d2, d3, d4] => { results := [.lit (.bool false)], args := [d1, d2, d3, d4] }
  | _ => none }
def CombineNearWrongFalsely : Prop := combineNearRow.holds Try.pinned (OpenSpec.ofChange combineNearWrong)

/- THE SECOND FORM. 'bulk': how many values and letters a reading holds, each counted each time it is reached (what is shared counts as often as it is met; a slice's spare places count too). A statement '..UptoSaid' is the law's where the arguments, and the package variables that the reading takes, are together of bulk at most 1048576: NARROWER than '..Said'. Prove '..Said' where nothing that the law and all that it calls make is longer than what came in: it says more and counts as full. Else prove '..UptoSaid'. A law counts once. -/
mutual
def uptoBulk {H : Type} : DataW H → Nat
  | .lit (.string bytes) => bytes.length + 1
  | .lit _ => 1
  | .nil => 1
  | .ptr d => uptoBulk d + 1
  | .slice elems spare => uptoBulkAll elems + uptoBulkAll spare + 1
  | .agg parts => uptoBulkAll parts + 1
  | .iface _ d => uptoBulk d + 1
  | .map entries => uptoBulkEntries entries + 1
  | .held _ => 1
def uptoBulkAll {H : Type} : List (DataW H) → Nat
  | [] => 0
  | d :: r => uptoBulk d + uptoBulkAll r
def uptoBulkEntries {H : Type} : List (Lit × DataW H) → Nat
  | [] => 0
  | x :: r => uptoBulkEntry x + uptoBulkEntries r
def uptoBulkEntry {H : Type} : Lit × DataW H → Nat
  | (.string bytes, d) => bytes.length + uptoBulk d + 1
  | (_, d) => uptoBulk d + 1
 end
def uptoSmall : (H : Type) → List (DataW H) → Bool := fun _ ds => decide (uptoBulkAll ds ≤ 1048576)
def OpenSpec.upto (s : _root_.Go.ChangeSpec) : _root_.Go.OpenSpec := { _root_.Go.OpenSpec.ofChange s with cond := some uptoSmall }

/-- 'analemmalaw18.CombineMeans', WHERE WHAT IT READS IS OF BULK AT MOST 1048576: true; the input reads as it did. -/
def combineMeansUptoRow : OpenClaim := { program := "ytekdablolacgfaa", sum := "7a38e7a4132766b9f02dce95392ea3a17dc09035214e2e279ba0029ec54161e3", func := "analemma/analemmalaw18.CombineMeans", spec := "combineMeans", unfollowed := true, recurses := true, apart := false, narrowed := true }
def CombineMeansUptoSaid : Prop := combineMeansUptoRow.holds Try.pinned (OpenSpec.upto combineMeansSpec)

/-- 'analemmalaw18.CombineTells', WHERE WHAT IT READS IS OF BULK AT MOST 1048576: true; the input reads as it did. -/
def combineTellsUptoRow : OpenClaim := { program := "ytekdablolacgfaa", sum := "7a38e7a4132766b9f02dce95392ea3a17dc09035214e2e279ba0029ec54161e3", func := "analemma/analemmalaw18.CombineTells", spec := "combineTells", unfollowed := true, recurses := true, apart := false, narrowed := true }
def CombineTellsUptoSaid : Prop := combineTellsUptoRow.holds Try.pinned (OpenSpec.upto combineTellsSpec)

/-- 'analemmalaw18.CombineWithin', WHERE WHAT IT READS IS OF BULK AT MOST 1048576: true; the input reads as it did. -/
def combineWithinUptoRow : OpenClaim := { program := "ytekdablolacgfaa", sum := "7a38e7a4132766b9f02dce95392ea3a17dc09035214e2e279ba0029ec54161e3", func := "analemma/analemmalaw18.CombineWithin", spec := "combineWithin", unfollowed := true, recurses := true, apart := false, narrowed := true }
def CombineWithinUptoSaid : Prop := combineWithinUptoRow.holds Try.pinned (OpenSpec.upto combineWithinSpec)

/-- 'analemmalaw18.CombineNear', WHERE WHAT IT READS IS OF BULK AT MOST 1048576: true; the input reads as it did. -/
def combineNearUptoRow : OpenClaim := { program := "ytekdablolacgfaa", sum := "7a38e7a4132766b9f02dce95392ea3a17dc09035214e2e279ba0029ec54161e3", func := "analemma/analemmalaw18.CombineNear", spec := "combineNear", unfollowed := true, recurses := true, apart := false, narrowed := true }
def CombineNearUptoSaid : Prop := combineNearUptoRow.holds Try.pinned (OpenSpec.upto combineNearSpec)

end Rows
end Go.Proofs.Ytekdablolacgfaa
