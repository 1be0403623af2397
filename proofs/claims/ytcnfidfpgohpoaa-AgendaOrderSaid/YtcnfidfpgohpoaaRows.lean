/-
  No cell of these rows narrows 'for every input' (looked for: loops, veiled, ifaces, maps, wideKeys, modest, calm, conditions, laid).
  DERIVED. THE GIVEN ROWS OF THIS SEAT. 5 by the template 'for every input the law returns true; each argument reads behind the call as it read before'; 0 by the template 'total and deterministic' (their statements: YtcnfidfpgohpoaaTotals.lean).
  GIVEN WITH THE SEED: the statements are not yours to turn. If you find one false, say at which input.
  Laid BY PROGRAM, IN A SANDBOX (cutbox-rows.mjs): the forced cells as the released guide's own fill.sh prints them over the translation 89fd4cd439a7003e… (all of the seat's roots in one cut). By AI agents, Wed Nov 11 2026. No macro, syntax, notation, axiom, sorry.
-/
import Derived.Test.YtcnfidfpgohpoaaChecked
import GoSem.Claim
import GoSem.ClaimJoined
import GoSem.ClaimMapViews
import Derived.JoinedTies
import Derived.KernelRfl
namespace Go.Proofs.Ytcnfidfpgohpoaa
/- THE CELL 'sum', in the pinned program and in every row, IS THE sha256 OF THE DUMP (.gsa) THAT YtcnfidfpgohpoaaProg.lean LOADS. Nothing in Lean hashes anything: it is a label: what it is worth is what the hold of that sum in a sandbox is worth. -/
noncomputable def Try.pinned : Pinned := { name := "ytcnfidfpgohpoaa", sum := "89fd4cd439a7003edf0a70785d95a25fc87e74ef137a19f7aa2112538d1d1c44", checked := Try.checked }
namespace Rows
def none {H : Type} : Left H := { results := [], args := [] }

/-- 'analemmalaw08.AgendaActs': WHATEVER THE INPUT: true; the input reads as it did. -/
def agendaActsSpec : ChangeSpec := { name := "agendaActs", fn := fun _ => fun
  | [d] => { results := [.lit (.bool true)], args := [d] }
  | _ => none }
def agendaActsRow : OpenClaim := { program := "ytcnfidfpgohpoaa", sum := "89fd4cd439a7003edf0a70785d95a25fc87e74ef137a19f7aa2112538d1d1c44", func := "analemma/analemmalaw08.AgendaActs", spec := "agendaActs", unfollowed := true, recurses := true, apart := false }
def AgendaActsSaid : Prop := agendaActsRow.holds Try.pinned (OpenSpec.ofChange agendaActsSpec)

/-- ITS FALSE NEIGHBOUR: 'it returns false'. Refute it at one input. -/
def agendaActsWrong : ChangeSpec := { name := "agendaActs", fn := fun _ => fun
  | [d] => { results := [.lit (.bool false)], args := [d] }
  | _ => none }
def AgendaActsWrongFalsely : Prop := agendaActsRow.holds Try.pinned (OpenSpec.ofChange agendaActsWrong)

/-- 'analemmalaw08.AgendaOrder': WHATEVER THE INPUT: true; the input reads as it did. -/
def agendaOrderSpec : ChangeSpec := { name := "agendaOrder", fn := fun _ => fun
  | [d1, d2] => { results := [.lit (.bool true)], args := [d1, d2] }
  | _ => none }
def agendaOrderRow : OpenClaim := { program := "ytcnfidfpgohpoaa", sum := "89fd4cd439a7003edf0a70785d95a25fc87e74ef137a19f7aa2112538d1d1c44", func := "analemma/analemmalaw08.AgendaOrder", spec := "agendaOrder", unfollowed := true, recurses := true, apart := false }
def AgendaOrderSaid : Prop := agendaOrderRow.holds Try.pinned (OpenSpec.ofChange agendaOrderSpec)

/-- ITS FALSE NEIGHBOUR: 'it returns false'. Refute it at one input. -/
def agendaOrderWrong : ChangeSpec := { name := "agendaOrder", fn := fun _ => fun
  | [d1, d2] => { results := [.lit (.bool false)], args := [d1, d2] }
  | _ => none }
def AgendaOrderWrongFalsely : Prop := agendaOrderRow.holds Try.pinned (OpenSpec.ofChange agendaOrderWrong)

/-- 'analemmalaw08.AgendaTickets': WHATEVER THE INPUT: true; the input reads as it did. -/
def agendaTicketsSpec : ChangeSpec := { name := "agendaTickets", fn := fun _ => fun
  | [d1, d2, d3] => { results := [.lit (.bool true)], args := [d1, d2, d3] }
  | _ => none }
def agendaTicketsRow : OpenClaim := { program := "ytcnfidfpgohpoaa", sum := "89fd4cd439a7003edf0a70785d95a25fc87e74ef137a19f7aa2112538d1d1c44", func := "analemma/analemmalaw08.AgendaTickets", spec := "agendaTickets", unfollowed := true, recurses := true, apart := false }
def AgendaTicketsSaid : Prop := agendaTicketsRow.holds Try.pinned (OpenSpec.ofChange agendaTicketsSpec)

/-- ITS FALSE NEIGHBOUR: 'it returns false'. Refute it at one input. -/
def agendaTicketsWrong : ChangeSpec := { name := "agendaTickets", fn := fun _ => fun
  | [d1, d2, d3] => { results := [.lit (.bool false)], args := [d1, d2, d3] }
  | _ => none }
def AgendaTicketsWrongFalsely : Prop := agendaTicketsRow.holds Try.pinned (OpenSpec.ofChange agendaTicketsWrong)

/-- 'analemmalaw08.AgendaFull': WHATEVER THE INPUT: true; the input reads as it did. -/
def agendaFullSpec : ChangeSpec := { name := "agendaFull", fn := fun _ => fun
  | [d1, d2] => { results := [.lit (.bool true)], args := [d1, d2] }
  | _ => none }
def agendaFullRow : OpenClaim := { program := "ytcnfidfpgohpoaa", sum := "89fd4cd439a7003edf0a70785d95a25fc87e74ef137a19f7aa2112538d1d1c44", func := "analemma/analemmalaw08.AgendaFull", spec := "agendaFull", unfollowed := true, recurses := true, apart := false }
def AgendaFullSaid : Prop := agendaFullRow.holds Try.pinned (OpenSpec.ofChange agendaFullSpec)

/-- ITS FALSE NEIGHBOUR: 'it returns false'. Refute it at one input. -/
def agendaFullWrong : ChangeSpec := { name := "agendaFull", fn := fun _ => fun
  | [d1, d2] => { results := [.lit (.bool false)], args := [d1, d2] }
  | _ => none }
def AgendaFullWrongFalsely : Prop := agendaFullRow.holds Try.pinned (OpenSpec.ofChange agendaFullWrong)

/-- 'analemmalaw08.AgendaMoves': WHATEVER THE INPUT: true; the input reads as it did. -/
def agendaMovesSpec : ChangeSpec := { name := "agendaMoves", fn := fun _ => fun
  | [d1, d2, d3] => { results := [.lit (.bool true)], args := [d1, d2, d3] }
  | _ => none }
def agendaMovesRow : OpenClaim := { program := "ytcnfidfpgohpoaa", sum := "89fd4cd439a7003edf0a70785d95a25fc87e74ef137a19f7aa2112538d1d1c44", func := "analemma/analemmalaw08.AgendaMoves", spec := "agendaMoves", unfollowed := true, recurses := true, apart := false }
def AgendaMovesSaid : Prop := agendaMovesRow.holds Try.pinned (OpenSpec.ofChange agendaMovesSpec)

/-- ITS FALSE NEIGHBOUR: 'it returns false'. Refute it at one input. -/
def agendaMovesWrong : ChangeSpec := { name := "agendaMoves", fn := fun _ => fun
  | [d1, d2, d3] => { results := [.lit (.bool false)], args := [d1, d2, d3] }
  | _ => none }
def AgendaMovesWrongFalsely : Prop := agendaMovesRow.holds Try.pinned (OpenSpec.ofChange agendaMovesWrong)

/- THE SECOND FORM. 'bulk': how many values and letters a reading holds, each counted each time it is reached (what is shared counts as often as it is met; a slice's spare places count too). A statement '..UptoSaid' is the law's where the arguments, and the package variables that the reading takes, are together of bulk at most 1048576: NARROWER than '..Said'. Prove '..Said' where nothing that the law and all that it calls make is longer than what came in: it says more and counts as full. Else prove '..UptoSaid'. A law counts once. -/
mutual
def uptoBulk {H : Type} : DataW H → Nat
  | .lit (.string bytes) => bytes.length + 1
  | .lit _ => 1
  | .nil => 1
  | .ptr d => uptoBulk d + 1
  | .slice elems spare => uptoBulkAll elems + uptoBulkAll spare + 1
  | .agg parts => uptoBulkAll parts + 1
  | .iface _ d => uptoBulk d + 1
  | .map entries => uptoBulkEntries entries + 1
  | .held _ => 1
def uptoBulkAll {H : Type} : List (DataW H) → Nat
  | [] => 0
  | d :: r => uptoBulk d + uptoBulkAll r
def uptoBulkEntries {H : Type} : List (Lit × DataW H) → Nat
  | [] => 0
  | x :: r => uptoBulkEntry x + uptoBulkEntries r
def uptoBulkEntry {H : Type} : Lit × DataW H → Nat
  | (.string bytes, d) => bytes.length + uptoBulk d + 1
  | (_, d) => uptoBulk d + 1
 end
def uptoSmall : (H : Type) → List (DataW H) → Bool := fun _ ds => decide (uptoBulkAll ds ≤ 1048576)
def OpenSpec.upto (s : _root_.Go.ChangeSpec) : _root_.Go.OpenSpec := { _root_.Go.OpenSpec.ofChange s with cond := some uptoSmall }

/-- 'analemmalaw08.AgendaActs', WHERE WHAT IT READS IS OF BULK AT MOST 1048576: true; the input reads as it did. -/
def agendaActsUptoRow : OpenClaim := { program := "ytcnfidfpgohpoaa", sum := "89fd4cd439a7003edf0a70785d95a25fc87e74ef137a19f7aa2112538d1d1c44", func := "analemma/analemmalaw08.AgendaActs", spec := "agendaActs", unfollowed := true, recurses := true, apart := false, narrowed := true }
def AgendaActsUptoSaid : Prop := agendaActsUptoRow.holds Try.pinned (OpenSpec.upto agendaActsSpec)

/-- 'analemmalaw08.AgendaOrder', WHERE WHAT IT READS IS OF BULK AT MOST 1048576: true; the input reads as it did. -/
def agendaOrderUptoRow : OpenClaim := { program := "ytcnfidfpgohpoaa", sum := "89fd4cd439a7003edf0a70785d95a25fc87e74ef137a19f7aa2112538d1d1c44", func := "analemma/analemmalaw08.AgendaOrder", spec := "agendaOrder", unfollowed := true, recurses := true, apart := false, narrowed := true }
def AgendaOrderUptoSaid : Prop := agendaOrderUptoRow.holds Try.pinned (OpenSpec.upto agendaOrderSpec)

/-- 'analemmalaw08.AgendaTickets', WHERE WHAT IT READS IS OF BULK AT MOST 1048576: true; the input reads as it did. -/
def agendaTicketsUptoRow : OpenClaim := { program := "ytcnfidfpgohpoaa", sum := "89fd4cd439a7003edf0a70785d95a25fc87e74ef137a19f7aa2112538d1d1c44", func := "analemma/analemmalaw08.AgendaTickets", spec := "agendaTickets", unfollowed := true, recurses := true, apart := false, narrowed := true }
def AgendaTicketsUptoSaid : Prop := agendaTicketsUptoRow.holds Try.pinned (OpenSpec.upto agendaTicketsSpec)

/-- 'analemmalaw08.AgendaFull', WHERE WHAT IT READS IS OF BULK AT MOST 1048576: true; the input reads as it did. -/
def agendaFullUptoRow : OpenClaim := { program := "ytcnfidfpgohpoaa", sum := "89fd4cd439a7003edf0a70785d95a25fc87e74ef137a19f7aa2112538d1d1c44", func := "analemma/analemmalaw08.AgendaFull", spec := "agendaFull", unfollowed := true, recurses := true, apart := false, narrowed := true }
def AgendaFullUptoSaid : Prop := agendaFullUptoRow.holds Try.pinned (OpenSpec.upto agendaFullSpec)

/-- 'analemmalaw08.AgendaMoves', WHERE WHAT IT READS IS OF BULK AT MOST 1048576: true; the input reads as it did. -/
def agendaMovesUptoRow : OpenClaim := { program := "ytcnfidfpgohpoaa", sum := "89fd4cd439a7003edf0a70785d95a25fc87e74ef137a19f7aa2112538d1d1c44", func := "analemma/analemmalaw08.AgendaMoves", spec := "agendaMoves", unfollowed := true, recurses := true, apart := false, narrowed := true }
def AgendaMovesUptoSaid : Prop := agendaMovesUptoRow.holds Try.pinned (OpenSpec.upto agendaMovesSpec)

end Rows
end Go.Proofs.Ytcnfidfpgohpoaa
