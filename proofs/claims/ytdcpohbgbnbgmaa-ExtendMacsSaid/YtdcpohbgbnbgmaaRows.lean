/-
  No cell of these rows narrows 'for every input' (looked for: loops, veiled, ifaces, maps, wideKeys, modest, calm, conditions, laid).
  DERIVED. THE GIVEN ROWS OF THIS SEAT. 5 by the template 'for every input the law returns true; each argument reads behind the call as it read before'; 0 by the template 'total and deterministic' (their statements: YtdcpohbgbnbgmaaTotals.lean).
  GIVEN WITH THE SEED: the statements are not yours to turn. If you find one false, say at which input.
  Laid BY PROGRAM, IN A SANDBOX (cutbox-rows.mjs): the forced cells as the released guide's own fill.sh prints them over the translation ae8ce2311838a446… (all of the seat's roots in one cut). By AI agents, Wed Nov 11 2026. No macro, syntax, notation, axiom, sorry.
-/
import Derived.Test.YtdcpohbgbnbgmaaChecked
import GoSem.Claim
import GoSem.ClaimJoined
import GoSem.ClaimMapViews
import Derived.JoinedTies
import Derived.KernelRfl
namespace Go.Proofs.Ytdcpohbgbnbgmaa
/- THE CELL 'sum', in the pinned program and in every row, IS THE sha256 OF THE DUMP (.gsa) THAT YtdcpohbgbnbgmaaProg.lean LOADS. Nothing in Lean hashes anything: it is a label: what it is worth is what the hold of that sum in a sandbox is worth. -/
noncomputable def Try.pinned : Pinned := { name := "ytdcpohbgbnbgmaa", sum := "ae8ce2311838a446e877c52baeadb124e8b24947867c51f698cff13b7473c0b2", checked := Try.checked }
namespace Rows
def none {H : Type} : Left H := { results := [], args := [] }

/-- 'analemmalaw06.ExtendWalks': WHATEVER THE INPUT: true; the input reads as it did. -/
def extendWalksSpec : ChangeSpec := { name := "extendWalks", fn := fun _ => fun
  | [d] => { results := [.lit (.bool true)], args := [d] }
  | _ => none }
def extendWalksRow : OpenClaim := { program := "ytdcpohbgbnbgmaa", sum := "ae8ce2311838a446e877c52baeadb124e8b24947867c51f698cff13b7473c0b2", func := "analemma/analemmalaw06.ExtendWalks", spec := "extendWalks", unfollowed := true, recurses := true, apart := false }
def ExtendWalksSaid : Prop := extendWalksRow.holds Try.pinned (OpenSpec.ofChange extendWalksSpec)

/-- ITS FALSE NEIGHBOUR: 'it returns false'. Refute it at one input. -/
def extendWalksWrong : ChangeSpec := { name := "extendWalks", fn := fun _ => fun
  | [d] => { results := [.lit (.bool false)], args := [d] }
  | _ => none }
def ExtendWalksWrongFalsely : Prop := extendWalksRow.holds Try.pinned (OpenSpec.ofChange extendWalksWrong)

/-- 'analemmalaw06.ExtendJoins': WHATEVER THE INPUT: true; the input reads as it did. -/
def extendJoinsSpec : ChangeSpec := { name := "extendJoins", fn := fun _ => fun
  | [d1, d2] => { results := [.lit (.bool true)], args := [d1, d2] }
  | _ => none }
def extendJoinsRow : OpenClaim := { program := "ytdcpohbgbnbgmaa", sum := "ae8ce2311838a446e877c52baeadb124e8b24947867c51f698cff13b7473c0b2", func := "analemma/analemmalaw06.ExtendJoins", spec := "extendJoins", unfollowed := true, recurses := true, apart := false }
def ExtendJoinsSaid : Prop := extendJoinsRow.holds Try.pinned (OpenSpec.ofChange extendJoinsSpec)

/-- ITS FALSE NEIGHBOUR: 'it returns false'. Refute it at one input. -/
def extendJoinsWrong : ChangeSpec := { name := "extendJoins", fn := fun _ => fun
  | [d1, d2] => { results := [.lit (.bool false)], args := [d1, d2] }
  | _ => none }
def ExtendJoinsWrongFalsely : Prop := extendJoinsRow.holds Try.pinned (OpenSpec.ofChange extendJoinsWrong)

/-- 'analemmalaw06.ExtendKisses': WHATEVER THE INPUT: true; the input reads as it did. -/
def extendKissesSpec : ChangeSpec := { name := "extendKisses", fn := fun _ => fun
  | [d1, d2] => { results := [.lit (.bool true)], args := [d1, d2] }
  | _ => none }
def extendKissesRow : OpenClaim := { program := "ytdcpohbgbnbgmaa", sum := "ae8ce2311838a446e877c52baeadb124e8b24947867c51f698cff13b7473c0b2", func := "analemma/analemmalaw06.ExtendKisses", spec := "extendKisses", unfollowed := true, recurses := true, apart := false }
def ExtendKissesSaid : Prop := extendKissesRow.holds Try.pinned (OpenSpec.ofChange extendKissesSpec)

/-- ITS FALSE NEIGHBOUR: 'it returns false'. Refute it at one input. -/
def extendKissesWrong : ChangeSpec := { name := "extendKisses", fn := fun _ => fun
  | [d1, d2] => { results := [.lit (.bool false)], args := [d1, d2] }
  | _ => none }
def ExtendKissesWrongFalsely : Prop := extendKissesRow.holds Try.pinned (OpenSpec.ofChange extendKissesWrong)

/-- 'analemmalaw06.ExtendFields': WHATEVER THE INPUT: true; the input reads as it did. -/
def extendFieldsSpec : ChangeSpec := { name := "extendFields", fn := fun _ => fun
  | [d1, d2, d3, d4] => { results := [.lit (.bool true)], args := [d1, d2, d3, d4] }
  | _ => none }
def extendFieldsRow : OpenClaim := { program := "ytdcpohbgbnbgmaa", sum := "ae8ce2311838a446e877c52baeadb124e8b24947867c51f698cff13b7473c0b2", func := "analemma/analemmalaw06.ExtendFields", spec := "extendFields", unfollowed := true, recurses := true, apart := false }
def ExtendFieldsSaid : Prop := extendFieldsRow.holds Try.pinned (OpenSpec.ofChange extendFieldsSpec)

/-- ITS FALSE NEIGHBOUR: 'it returns false'. Refute it at one input. -/
def extendFieldsWrong : ChangeSpec := { name := "extendFields", fn := fun _ => fun
  | [d1, d2, d3, d4] => { results := [.lit (.bool false)], args := [d1, d2, d3, d4] }
  | _ => none }
def ExtendFieldsWrongFalsely : Prop := extendFieldsRow.holds Try.pinned (OpenSpec.ofChange extendFieldsWrong)

/-- 'analemmalaw06.ExtendMacs': WHATEVER THE INPUT: true; the input reads as it did. -/
def extendMacsSpec : ChangeSpec := { name := "extendMacs", fn := fun _ => fun
  | [d] => { results := [.lit (.bool true)], args := [d] }
  | _ => none }
def extendMacsRow : OpenClaim := { program := "ytdcpohbgbnbgmaa", sum := "ae8ce2311838a446e877c52baeadb124e8b24947867c51f698cff13b7473c0b2", func := "analemma/analemmalaw06.ExtendMacs", spec := "extendMacs", unfollowed := true, recurses := true, apart := false }
def ExtendMacsSaid : Prop := extendMacsRow.holds Try.pinned (OpenSpec.ofChange extendMacsSpec)

/-- ITS FALSE NEIGHBOUR: 'it returns false'. Refute it at one input. -/
def extendMacsWrong : ChangeSpec := { name := "extendMacs", fn := fun _ => fun
  | [d] => { results := [.lit (.bool false)], args := [d] }
  | _ => none }
def ExtendMacsWrongFalsely : Prop := extendMacsRow.holds Try.pinned (OpenSpec.ofChange extendMacsWrong)

/- THE SECOND FORM. 'bulk': how many values and letters a reading holds, each counted each time it is reached (what is shared counts as often as it is met; a slice's spare places count too). A statement '..UptoSaid' is the law's where the arguments, and the package variables that the reading takes, are together of bulk at most 1048576: NARROWER than '..Said'. Prove '..Said' where nothing that the law and all that it calls make is longer than what came in: it says more and counts as full. Else prove '..UptoSaid'. A law counts once. -/
mutual
def uptoBulk {H : Type} : DataW H → Nat
  | .lit (.string bytes) => bytes.length + 1
  | .lit _ => 1
  | .nil => 1
  | .ptr d => uptoBulk d + 1
  | .slice elems spare => uptoBulkAll elems + uptoBulkAll spare + 1
  | .agg parts => uptoBulkAll parts + 1
  | .iface _ d => uptoBulk d + 1
  | .map entries => uptoBulkEntries entries + 1
  | .held _ => 1
def uptoBulkAll {H : Type} : List (DataW H) → Nat
  | [] => 0
  | d :: r => uptoBulk d + uptoBulkAll r
def uptoBulkEntries {H : Type} : List (Lit × DataW H) → Nat
  | [] => 0
  | x :: r => uptoBulkEntry x + uptoBulkEntries r
def uptoBulkEntry {H : Type} : Lit × DataW H → Nat
  | (.string bytes, d) => bytes.length + uptoBulk d + 1
  | (_, d) => uptoBulk d + 1
 end
def uptoSmall : (H : Type) → List (DataW H) → Bool := fun _ ds => decide (uptoBulkAll ds ≤ 1048576)
def OpenSpec.upto (s : _root_.Go.ChangeSpec) : _root_.Go.OpenSpec := { _root_.Go.OpenSpec.ofChange s with cond := some uptoSmall }

/-- 'analemmalaw06.ExtendWalks', WHERE WHAT IT READS IS OF BULK AT MOST 1048576: true; the input reads as it did. -/
def extendWalksUptoRow : OpenClaim := { program := "ytdcpohbgbnbgmaa", sum := "ae8ce2311838a446e877c52baeadb124e8b24947867c51f698cff13b7473c0b2", func := "analemma/analemmalaw06.ExtendWalks", spec := "extendWalks", unfollowed := true, recurses := true, apart := false, narrowed := true }
def ExtendWalksUptoSaid : Prop := extendWalksUptoRow.holds Try.pinned (OpenSpec.upto extendWalksSpec)

/-- 'analemmalaw06.ExtendJoins', WHERE WHAT IT READS IS OF BULK AT MOST 1048576: true; the input reads as it did. -/
def extendJoinsUptoRow : OpenClaim := { program := "ytdcpohbgbnbgmaa", sum := "ae8ce2311838a446e877c52baeadb124e8b24947867c51f698cff13b7473c0b2", func := "analemma/analemmalaw06.ExtendJoins", spec := "extendJoins", unfollowed := true, recurses := true, apart := false, narrowed := true }
def ExtendJoinsUptoSaid : Prop := extendJoinsUptoRow.holds Try.pinned (OpenSpec.upto extendJoinsSpec)

/-- 'analemmalaw06.ExtendKisses', WHERE WHAT IT READS IS OF BULK AT MOST 1048576: true; the input reads as it did. -/
def extendKissesUptoRow : OpenClaim := { program := "ytdcpohbgbnbgmaa", sum := "ae8ce2311838a446e877c52baeadb124e8b24947867c51f698cff13b7473c0b2", func := "analemma/analemmalaw06.ExtendKisses", spec := "extendKisses", unfollowed := true, recurses := true, apart := false, narrowed := true }
def ExtendKissesUptoSaid : Prop := extendKissesUptoRow.holds Try.pinned (OpenSpec.upto extendKissesSpec)

/-- 'analemmalaw06.ExtendFields', WHERE WHAT IT READS IS OF BULK AT MOST 1048576: true; the input reads as it did. -/
def extendFieldsUptoRow : OpenClaim := { program := "ytdcpohbgbnbgmaa", sum := "ae8ce2311838a446e877c52baeadb124e8b24947867c51f698cff13b7473c0b2", func := "analemma/analemmalaw06.ExtendFields", spec := "extendFields", unfollowed := true, recurses := true, apart := false, narrowed := true }
def ExtendFieldsUptoSaid : Prop := extendFieldsUptoRow.holds Try.pinned (OpenSpec.upto extendFieldsSpec)

/-- 'analemmalaw06.ExtendMacs', WHERE WHAT IT READS IS OF BULK AT MOST 1048576: true; the input reads as it did. -/
def extendMacsUptoRow : OpenClaim := { program := "ytdcpohbgbnbgmaa", sum := "ae8ce2311838a446e877c52baeadb124e8b24947867c51f698cff13b7473c0b2", func := "analemma/analemmalaw06.ExtendMacs", spec := "extendMacs", unfollowed := true, recurses := true, apart := false, narrowed := true }
def ExtendMacsUptoSaid : Prop := extendMacsUptoRow.holds Try.pinned (OpenSpec.upto extendMacsSpec)

end Rows
end Go.Proofs.Ytdcpohbgbnbgmaa
