/-
  No cell of these rows narrows 'for every input' (looked for: loops, veiled, ifaces, maps, wideKeys, modest, calm, conditions, laid).
  DERIVED. THE GIVEN ROWS OF THIS SEAT. 4 by the template 'for every input the law returns true; each argument reads behind the call as it read before'; 0 by the template 'total and deterministic' (their statements: YtaklalpbncdijaaTotals.lean).
  GIVEN WITH THE SEED: the statements are not yours to turn. If you find one false, say at which input.
  Laid BY PROGRAM, IN A SANDBOX (cutbox-rows.mjs): the forced cells as the released guide's own fill.sh prints them over the translation 542218787a09ab81… (all of the seat's roots in one cut). By AI agents, Wed Nov 11 2026. No macro, syntax, notation, axiom, sorry.
-/
import Derived.Test.YtaklalpbncdijaaChecked
import GoSem.Claim
import GoSem.ClaimJoined
import GoSem.ClaimMapViews
import Derived.JoinedTies
import Derived.KernelRfl
namespace Go.Proofs.Ytaklalpbncdijaa
/- THE CELL 'sum', in the pinned program and in every row, IS THE sha256 OF THE DUMP (.gsa) THAT YtaklalpbncdijaaProg.lean LOADS. Nothing in Lean hashes anything: it is a label: what it is worth is what the hold of that sum in a sandbox is worth. -/
noncomputable def Try.pinned : Pinned := { name := "ytaklalpbncdijaa", sum := "542218787a09ab817c453b449e1d69cc0f7ba5e02a091e904297cd29c8ab7e99", checked := Try.checked }
namespace Rows
def none {H : Type} : Left H := { results := [], args := [] }

/-- 'analemmalaw07.LedgerActs': WHATEVER THE INPUT: true; the input reads as it did. -/
def ledgerActsSpec : ChangeSpec := { name := "ledgerActs", fn := fun _ => fun
  | [d1, d2, d3] => { results := [.lit (.bool true)], args := [d1, d2, d3] }
  | _ => none }
def ledgerActsRow : OpenClaim := { program := "ytaklalpbncdijaa", sum := "542218787a09ab817c453b449e1d69cc0f7ba5e02a091e904297cd29c8ab7e99", func := "analemma/analemmalaw07.LedgerActs", spec := "ledgerActs", unfollowed := true, recurses := true, apart := false }
def LedgerActsSaid : Prop := ledgerActsRow.holds Try.pinned (OpenSpec.ofChange ledgerActsSpec)

/-- ITS FALSE NEIGHBOUR: 'it returns false'. Refute it at one input. -/
def ledgerActsWrong : ChangeSpec := { name := "ledgerActs", fn := fun _ => fun
  | [d1, d2, d3] => { results := [.lit (.bool false)], args := [d1, d2, d3] }
  | _ => none }
def LedgerActsWrongFalsely : Prop := ledgerActsRow.holds Try.pinned (OpenSpec.ofChange ledgerActsWrong)

/-- 'analemmalaw07.LedgerForward': WHATEVER THE INPUT: true; the input reads as it did. -/
def ledgerForwardSpec : ChangeSpec := { name := "ledgerForward", fn := fun _ => fun
  | [d1, d2, d3, d4] => { results := [.lit (.bool true)], args := [d1, d2, d3, d4] }
  | _ => none }
def ledgerForwardRow : OpenClaim := { program := "ytaklalpbncdijaa", sum := "542218787a09ab817c453b449e1d69cc0f7ba5e02a091e904297cd29c8ab7e99", func := "analemma/analemmalaw07.LedgerForward", spec := "ledgerForward", unfollowed := true, recurses := true, apart := false }
def LedgerForwardSaid : Prop := ledgerForwardRow.holds Try.pinned (OpenSpec.ofChange ledgerForwardSpec)

/-- ITS FALSE NEIGHBOUR: 'it returns false'. Refute it at one input. -/
def ledgerForwardWrong : ChangeSpec := { name := "ledgerForward", fn := fun _ => fun
  | [d1, d2, d3, d4] => { results := [.lit (.bool false)], args := [d1, d2, d3, d4] }
  | _ => none }
def LedgerForwardWrongFalsely : Prop := ledgerForwardRow.holds Try.pinned (OpenSpec.ofChange ledgerForwardWrong)

/-- 'analemmalaw07.LedgerSince': WHATEVER THE INPUT: true; the input reads as it did. -/
def ledgerSinceSpec : ChangeSpec := { name := "ledgerSince", fn := fun _ => fun
  | [d1, d2, d3, d4] => { results := [.lit (.bool true)], args := [d1, d2, d3, d4] }
  | _ => none }
def ledgerSinceRow : OpenClaim := { program := "ytaklalpbncdijaa", sum := "542218787a09ab817c453b449e1d69cc0f7ba5e02a091e904297cd29c8ab7e99", func := "analemma/analemmalaw07.LedgerSince", spec := "ledgerSince", unfollowed := true, recurses := true, apart := false }
def LedgerSinceSaid : Prop := ledgerSinceRow.holds Try.pinned (OpenSpec.ofChange ledgerSinceSpec)

/-- ITS FALSE NEIGHBOUR: 'it returns false'. Refute it at one input. -/
def ledgerSinceWrong : ChangeSpec := { name := "ledgerSince", fn := fun _ => fun
  | [d1, d2, d3, d4] => { results := [.lit (.bool false)], args := [d1, d2, d3, d4] }
  | _ => none }
def LedgerSinceWrongFalsely : Prop := ledgerSinceRow.holds Try.pinned (OpenSpec.ofChange ledgerSinceWrong)

/-- 'analemmalaw07.LedgerOld': WHATEVER THE INPUT: true; the input reads as it did. -/
def ledgerOldSpec : ChangeSpec := { name := "ledgerOld", fn := fun _ => fun
  | [d1, d2, d3, d4] => { results := [.lit (.bool true)], args := [d1, d2, d3, d4] }
  | _ => none }
def ledgerOldRow : OpenClaim := { program := "ytaklalpbncdijaa", sum := "542218787a09ab817c453b449e1d69cc0f7ba5e02a091e904297cd29c8ab7e99", func := "analemma/analemmalaw07.LedgerOld", spec := "ledgerOld", unfollowed := true, recurses := true, apart := false }
def LedgerOldSaid : Prop := ledgerOldRow.holds Try.pinned (OpenSpec.ofChange ledgerOldSpec)

/-- ITS FALSE NEIGHBOUR: 'it returns false'. Refute it at one input. -/
def ledgerOldWrong : ChangeSpec := { name := "ledgerOld", fn := fun _ => fun
  | [d1, d2, d3, d4] => { results := [.lit (.bool false)], args := [d1, d2, d3, d4] }
  | _ => none }
def LedgerOldWrongFalsely : Prop := ledgerOldRow.holds Try.pinned (OpenSpec.ofChange ledgerOldWrong)

/- THE SECOND FORM. 'bulk': how many values and letters a reading holds, each counted each time it is reached (what is shared counts as often as it is met; a slice's spare places count too). A statement '..UptoSaid' is the law's where the arguments, and the package variables that the reading takes, are together of bulk at most 1048576: NARROWER than '..Said'. Prove '..Said' where nothing that the law and all that it calls make is longer than what came in: it says more and counts as full. Else prove '..UptoSaid'. A law counts once. -/
mutual
def uptoBulk {H : Type} : DataW H → Nat
  | .lit (.string bytes) => bytes.length + 1
  | .lit _ => 1
  | .nil => 1
  | .ptr d => uptoBulk d + 1
  | .slice elems spare => uptoBulkAll elems + uptoBulkAll spare + 1
  | .agg parts => uptoBulkAll parts + 1
  | .iface _ d => uptoBulk d + 1
  | .map entries => uptoBulkEntries entries + 1
  | .held _ => 1
def uptoBulkAll {H : Type} : List (DataW H) → Nat
  | [] => 0
  | d :: r => uptoBulk d + uptoBulkAll r
def uptoBulkEntries {H : Type} : List (Lit × DataW H) → Nat
  | [] => 0
  | x :: r => uptoBulkEntry x + uptoBulkEntries r
def uptoBulkEntry {H : Type} : Lit × DataW H → Nat
  | (.string bytes, d) => bytes.length + uptoBulk d + 1
  | (_, d) => uptoBulk d + 1
 end
def uptoSmall : (H : Type) → List (DataW H) → Bool := fun _ ds => decide (uptoBulkAll ds ≤ 1048576)
def OpenSpec.upto (s : _root_.Go.ChangeSpec) : _root_.Go.OpenSpec := { _root_.Go.OpenSpec.ofChange s with cond := some uptoSmall }

/-- 'analemmalaw07.LedgerActs', WHERE WHAT IT READS IS OF BULK AT MOST 1048576: true; the input reads as it did. -/
def ledgerActsUptoRow : OpenClaim := { program := "ytaklalpbncdijaa", sum := "542218787a09ab817c453b449e1d69cc0f7ba5e02a091e904297cd29c8ab7e99", func := "analemma/analemmalaw07.LedgerActs", spec := "ledgerActs", unfollowed := true, recurses := true, apart := false, narrowed := true }
def LedgerActsUptoSaid : Prop := ledgerActsUptoRow.holds Try.pinned (OpenSpec.upto ledgerActsSpec)

/-- 'analemmalaw07.LedgerForward', WHERE WHAT IT READS IS OF BULK AT MOST 1048576: true; the input reads as it did. -/
def ledgerForwardUptoRow : OpenClaim := { program := "ytaklalpbncdijaa", sum := "542218787a09ab817c453b449e1d69cc0f7ba5e02a091e904297cd29c8ab7e99", func := "analemma/analemmalaw07.LedgerForward", spec := "ledgerForward", unfollowed := true, recurses := true, apart := false, narrowed := true }
def LedgerForwardUptoSaid : Prop := ledgerForwardUptoRow.holds Try.pinned (OpenSpec.upto ledgerForwardSpec)

/-- 'analemmalaw07.LedgerSince', WHERE WHAT IT READS IS OF BULK AT MOST 1048576: true; the input reads as it did. -/
def ledgerSinceUptoRow : OpenClaim := { program := "ytaklalpbncdijaa", sum := "542218787a09ab817c453b449e1d69cc0f7ba5e02a091e904297cd29c8ab7e99", func := "analemma/analemmalaw07.LedgerSince", spec := "ledgerSince", unfollowed := true, recurses := true, apart := false, narrowed := true }
def LedgerSinceUptoSaid : Prop := ledgerSinceUptoRow.holds Try.pinned (OpenSpec.upto ledgerSinceSpec)

/-- 'analemmalaw07.LedgerOld', WHERE WHAT IT READS IS OF BULK AT MOST 1048576: true; the input reads as it did. -/
def ledgerOldUptoRow : OpenClaim := { program := "ytaklalpbncdijaa", sum := "542218787a09ab817c453b449e1d69cc0f7ba5e02a091e904297cd29c8ab7e99", func := "analemma/analemmalaw07.LedgerOld", spec := "ledgerOld", unfollowed := true, recurses := true, apart := false, narrowed := true }
def LedgerOldUptoSaid : Prop := ledgerOldUptoRow.holds Try.pinned (OpenSpec.upto ledgerOldSpec)

end Rows
end Go.Proofs.Ytaklalpbncdijaa
