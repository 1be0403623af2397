/-
  No cell of these rows narrows 'for every input' (looked for: loops, veiled, ifaces, maps, wideKeys, modest, calm, conditions, laid).
  DERIVED. THE GIVEN ROWS OF THIS SEAT. 5 by the template 'for every input the law returns true; each argument reads behind the call as it read before'; 0 by the template 'total and deterministic' (their statements: YtefjdmbioclddaaTotals.lean).
  GIVEN WITH THE SEED: the statements are not yours to turn. If you find one false, say at which input.
  Laid BY PROGRAM, IN A SANDBOX (cutbox-rows.mjs): the forced cells as the released guide's own fill.sh prints them over the translation 08b212d7cefb92ab… (all of the seat's roots in one cut). By AI agents, Wed Nov 11 2026. No macro, syntax, notation, axiom, sorry.
-/
import Derived.Test.YtefjdmbioclddaaChecked
import GoSem.Claim
import GoSem.ClaimJoined
import GoSem.ClaimMapViews
import Derived.JoinedTies
import Derived.KernelRfl
namespace Go.Proofs.Ytefjdmbioclddaa
/- THE CELL 'sum', in the pinned program and in every row, IS THE sha256 OF THE DUMP (.gsa) THAT YtefjdmbioclddaaProg.lean LOADS. Nothing in Lean hashes anything: it is a label: what it is worth is what the hold of that sum in a sandbox is worth. -/
noncomputable def Try.pinned : Pinned := { name := "ytefjdmbioclddaa", sum := "08b212d7cefb92ab24a5b4821022fd2ef39f5e94a974fb5dcc2573231c403abe", checked := Try.checked }
namespace Rows
def none {H : Type} : Left H := { results := [], args := [] }

/-- 'analemmalaw17.ClusterTells': WHATEVER THE INPUT: true; the input reads as it did. -/
def clusterTellsSpec : ChangeSpec := { name := "clusterTells", fn := fun _ => fun
  | [d1, d2, d3] => { results := [.lit (.bool true)], args := [d1, d2, d3] }
  | _ => none }
def clusterTellsRow : OpenClaim := { program := "ytefjdmbioclddaa", sum := "08b212d7cefb92ab24a5b4821022fd2ef39f5e94a974fb5dcc2573231c403abe", func := "analemma/analemmalaw17.ClusterTells", spec := "clusterTells", unfollowed := true, recurses := true, apart := false }
def ClusterTellsSaid : Prop := clusterTellsRow.holds Try.pinned (OpenSpec.ofChange clusterTellsSpec)

/-- ITS FALSE NEIGHBOUR: 'it returns false'. Refute it at one input. -/
def clusterTellsWrong : ChangeSpec := { name := "clusterTells", fn := fun _ => fun
  | [d1, d2, d3] => { results := [.lit (.bool false)], args := [d1, d2, d3] }
  | _ => none }
def ClusterTellsWrongFalsely : Prop := clusterTellsRow.holds Try.pinned (OpenSpec.ofChange clusterTellsWrong)

/-- 'analemmalaw17.ClusterKeeps': WHATEVER THE INPUT: true; the input reads as it did. -/
def clusterKeepsSpec : ChangeSpec := { name := "clusterKeeps", fn := fun _ => fun
  | [d1, d2] => { results := [.lit (.bool true)], args := [d1, d2] }
  | _ => none }
def clusterKeepsRow : OpenClaim := { program := "ytefjdmbioclddaa", sum := "08b212d7cefb92ab24a5b4821022fd2ef39f5e94a974fb5dcc2573231c403abe", func := "analemma/analemmalaw17.ClusterKeeps", spec := "clusterKeeps", unfollowed := true, recurses := true, apart := false }
def ClusterKeepsSaid : Prop := clusterKeepsRow.holds Try.pinned (OpenSpec.ofChange clusterKeepsSpec)

/-- ITS FALSE NEIGHBOUR: 'it returns false'. Refute it at one input. -/
def clusterKeepsWrong : ChangeSpec := { name := "clusterKeeps", fn := fun _ => fun
  | [d1, d2] => { results := [.lit (.bool false)], args := [d1, d2] }
  | _ => none }
def ClusterKeepsWrongFalsely : Prop := clusterKeepsRow.holds Try.pinned (OpenSpec.ofChange clusterKeepsWrong)

/-- 'analemmalaw17.ClusterAgrees': WHATEVER THE INPUT: true; the input reads as it did. -/
def clusterAgreesSpec : ChangeSpec := { name := "clusterAgrees", fn := fun _ => fun
  | [d1, d2, d3, d4, d5] => { results := [.lit (.bool true)], args := [d1, d2, d3, d4, d5] }
  | _ => none }
def clusterAgreesRow : OpenClaim := { program := "ytefjdmbioclddaa", sum := "08b212d7cefb92ab24a5b4821022fd2ef39f5e94a974fb5dcc2573231c403abe", func := "analemma/analemmalaw17.ClusterAgrees", spec := "clusterAgrees", unfollowed := true, recurses := true, apart := false }
def ClusterAgreesSaid : Prop := clusterAgreesRow.holds Try.pinned (OpenSpec.ofChange clusterAgreesSpec)

/-- ITS FALSE NEIGHBOUR: 'it returns false'. Refute it at one input. -/
def clusterAgreesWrong : ChangeSpec := { name := "clusterAgrees", fn := fun _ => fun
  | [d1, d2, d3, d4, d5] => { results := [.lit (.bool false)], args := [d1, d2, d3, d4, d5] }
  | _ => none }
def ClusterAgreesWrongFalsely : Prop := clusterAgreesRow.holds Try.pinned (OpenSpec.ofChange clusterAgreesWrong)

/-- 'analemmalaw17.ClusterMoves': WHATEVER THE INPUT: true; the input reads as it did. -/
def clusterMovesSpec : ChangeSpec := { name := "clusterMoves", fn := fun _ => fun
  | [d1, d2, d3, d4] => { results := [.lit (.bool true)], args := [d1, d2, d3, d4] }
  | _ => none }
def clusterMovesRow : OpenClaim := { program := "ytefjdmbioclddaa", sum := "08b212d7cefb92ab24a5b4821022fd2ef39f5e94a974fb5dcc2573231c403abe", func := "analemma/analemmalaw17.ClusterMoves", spec := "clusterMoves", unfollowed := true, recurses := true, apart := false }
def ClusterMovesSaid : Prop := clusterMovesRow.holds Try.pinned (OpenSpec.ofChange clusterMovesSpec)

/-- ITS FALSE NEIGHBOUR: 'it returns false'. Refute it at one input. -/
def clusterMovesWrong : ChangeSpec := { name := "clusterMoves", fn := fun _ => fun
  | [d1, d2, d3, d4] => { results := [.lit (.bool false)], args := [d1, d2, d3, d4] }
  | _ => none }
def ClusterMovesWrongFalsely : Prop := clusterMovesRow.holds Try.pinned (OpenSpec.ofChange clusterMovesWrong)

/-- 'analemmalaw17.ClusterFar': WHATEVER THE INPUT: true; the input reads as it did. -/
def clusterFarSpec : ChangeSpec := { name := "clusterFar", fn := fun _ => fun
  | [d1, d2, d3] => { results := [.lit (.bool true)], args := [d1, d2, d3] }
  | _ => none }
def clusterFarRow : OpenClaim := { program := "ytefjdmbioclddaa", sum := "08b212d7cefb92ab24a5b4821022fd2ef39f5e94a974fb5dcc2573231c403abe", func := "analemma/analemmalaw17.ClusterFar", spec := "clusterFar", unfollowed := true, recurses := true, apart := false }
def ClusterFarSaid : Prop := clusterFarRow.holds Try.pinned (OpenSpec.ofChange clusterFarSpec)

/-- ITS FALSE NEIGHBOUR: 'it returns false'. Refute it at one input. -/
def clusterFarWrong : ChangeSpec := { name := "clusterFar", fn := fun _ => fun
  | [d1, d2, d3] => { results := [.lit (.bool false)], args := [d1, d2, d3] }
  | _ => none }
def ClusterFarWrongFalsely : Prop := clusterFarRow.holds Try.pinned (OpenSpec.ofChange clusterFarWrong)

/- THE SECOND FORM. 'bulk': how many values and letters a reading holds, each counted each time it is reached (what is shared counts as often as it is met; a slice's spare places count too). A statement '..UptoSaid' is the law's where the arguments, and the package variables that the reading takes, are together of bulk at most 1048576: NARROWER than '..Said'. Prove '..Said' where nothing that the law and all that it calls make is longer than what came in: it says more and counts as full. Else prove '..UptoSaid'. A law counts once. -/
mutual
def uptoBulk {H : Type} : DataW H → Nat
  | .lit (.string bytes) => bytes.length + 1
  | .lit _ => 1
  | .nil => 1
  | .ptr d => uptoBulk d + 1
  | .slice elems spare => uptoBulkAll elems + uptoBulkAll spare + 1
  | .agg parts => uptoBulkAll parts + 1
  | .iface _ d => uptoBulk d + 1
  | .map entries => uptoBulkEntries entries + 1
  | .held _ => 1
def uptoBulkAll {H : Type} : List (DataW H) → Nat
  | [] => 0
  | d :: r => uptoBulk d + uptoBulkAll r
def uptoBulkEntries {H : Type} : List (Lit × DataW H) → Nat
  | [] => 0
  | x :: r => uptoBulkEntry x + uptoBulkEntries r
def uptoBulkEntry {H : Type} : Lit × DataW H → Nat
  | (.string bytes, d) => bytes.length + uptoBulk d + 1
  | (_, d) => uptoBulk d + 1
 end
def uptoSmall : (H : Type) → List (DataW H) → Bool := fun _ ds => decide (uptoBulkAll ds ≤ 1048576)
def OpenSpec.upto (s : _root_.Go.ChangeSpec) : _root_.Go.OpenSpec := { _root_.Go.OpenSpec.ofChange s with cond := some uptoSmall }

/-- 'analemmalaw17.ClusterTells', WHERE WHAT IT READS IS OF BULK AT MOST 1048576: true; the input reads as it did. -/
def clusterTellsUptoRow : OpenClaim := { program := "ytefjdmbioclddaa", sum := "08b212d7cefb92ab24a5b4821022fd2ef39f5e94a974fb5dcc2573231c403abe", func := "analemma/analemmalaw17.ClusterTells", spec := "clusterTells", unfollowed := true, recurses := true, apart := false, narrowed := true }
def ClusterTellsUptoSaid : Prop := clusterTellsUptoRow.holds Try.pinned (OpenSpec.upto clusterTellsSpec)

/-- 'analemmalaw17.ClusterKeeps', WHERE WHAT IT READS IS OF BULK AT MOST 1048576: true; the input reads as it did. -/
def clusterKeepsUptoRow : OpenClaim := { program := "ytefjdmbioclddaa", sum := "08b212d7cefb92ab24a5b4821022fd2ef39f5e94a974fb5dcc2573231c403abe", func := "analemma/analemmalaw17.ClusterKeeps", spec := "clusterKeeps", unfollowed := true, recurses := true, apart := false, narrowed := true }
def ClusterKeepsUptoSaid : Prop := clusterKeepsUptoRow.holds Try.pinned (OpenSpec.upto clusterKeepsSpec)

/-- 'analemmalaw17.ClusterAgrees', WHERE WHAT IT READS IS OF BULK AT MOST 1048576: true; the input reads as it did. -/
def clusterAgreesUptoRow : OpenClaim := { program := "ytefjdmbioclddaa", sum := "08b212d7cefb92ab24a5b4821022fd2ef39f5e94a974fb5dcc2573231c403abe", func := "analemma/analemmalaw17.ClusterAgrees", spec := "clusterAgrees", unfollowed := true, recurses := true, apart := false, narrowed := true }
def ClusterAgreesUptoSaid : Prop := clusterAgreesUptoRow.holds Try.pinned (OpenSpec.upto clusterAgreesSpec)

/-- 'analemmalaw17.ClusterMoves', WHERE WHAT IT READS IS OF BULK AT MOST 1048576: true; the input reads as it did. -/
def clusterMovesUptoRow : OpenClaim := { program := "ytefjdmbioclddaa", sum := "08b212d7cefb92ab24a5b4821022fd2ef39f5e94a974fb5dcc2573231c403abe", func := "analemma/analemmalaw17.ClusterMoves", spec := "clusterMoves", unfollowed := true, recurses := true, apart := false, narrowed := true }
def ClusterMovesUptoSaid : Prop := clusterMovesUptoRow.holds Try.pinned (OpenSpec.upto clusterMovesSpec)

/-- 'analemmalaw17.ClusterFar', WHERE WHAT IT READS IS OF BULK AT MOST 1048576: true; the input reads as it did. -/
def clusterFarUptoRow : OpenClaim := { program := "ytefjdmbioclddaa", sum := "08b212d7cefb92ab24a5b4821022fd2ef39f5e94a974fb5dcc2573231c403abe", func := "analemma/analemmalaw17.ClusterFar", spec := "clusterFar", unfollowed := true, recurses := true, apart := false, narrowed := true }
def ClusterFarUptoSaid : Prop := clusterFarUptoRow.holds Try.pinned (OpenSpec.upto clusterFarSpec)

end Rows
end Go.Proofs.Ytefjdmbioclddaa
