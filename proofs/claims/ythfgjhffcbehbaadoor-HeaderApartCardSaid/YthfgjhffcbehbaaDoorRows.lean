/-
  NARROWER THAN 'FOR EVERY INPUT', by the rows' own cells (each row's printed sentence says how): HeaderEncodes: laid · HeaderDecodes: laid · HeaderAsks: laid · HeaderApart: laid · HeaderFirst: laid.
  DERIVED. THE GIVEN ROWS OF THIS SEAT. 5 by the template 'for every input the law returns true; each argument reads behind the call as it read before'; 0 by the template 'total and deterministic' (their statements: YthfgjhffcbehbaaDoorTotals.lean).
  GIVEN WITH THE SEED: the statements are not yours to turn. If you find one false, say at which input.
  Laid BY PROGRAM, IN A SANDBOX (cutbox-rows.mjs): the forced cells as the released guide's own fill.sh prints them over the translation 3aaff48353707dfe… (all of the seat's roots in one cut). By AI agents, Wed Nov 11 2026. No macro, syntax, notation, axiom, sorry.
-/
import Derived.Test.YthfgjhffcbehbaaDoorChecked
import GoSem.Claim
import GoSem.ClaimJoined
import GoSem.ClaimMapViews
import Derived.JoinedTies
import Derived.KernelRfl
namespace Go.Proofs.YthfgjhffcbehbaaDoor
/- THE CELL 'sum', in the pinned program and in every row, IS THE sha256 OF THE DUMP (.gsa) THAT YthfgjhffcbehbaaDoorProg.lean LOADS. Nothing in Lean hashes anything: it is a label: what it is worth is what the hold of that sum in a sandbox is worth. -/
noncomputable def Tryd.pinned : Pinned := { name := "ythfgjhffcbehbaadoor", sum := "3aaff48353707dfe75af769fb745b6e5709d60d1b5e95b5a6f779816867a08c7", checked := Tryd.checked }
namespace Rows
def none {H : Type} : Left H := { results := [], args := [] }

/- WHAT THE LISTED PACKAGE-LEVEL VARIABLES READ AS WHEN THE CALL BEGINS. Each datum BY PROGRAM (the guide's laid-datum.mjs) off the statement by which the dump's own 'gosem.cut.vars' lays the variable. In a bare row this is a premise. The card (YthfgjhffcbehbaaDoorCards.lean) ties it to the program's text. -/
def laid_analemma_header_bounds {H : Type} : DataW H := .agg [.agg [.lit (.int .i64 0), .lit (.int .i64 3)], .agg [.lit (.int .i64 1), .lit (.int .i64 4)], .agg [.lit (.int .i64 0), .lit (.int .i64 7)], .agg [.lit (.int .i64 0), .lit (.int .i64 255)], .agg [.lit (.int .i64 (-128)), .lit (.int .i64 127)], .agg [.lit (.int .i64 (-128)), .lit (.int .i64 127)]]

/-- 'analemmalaw05.HeaderEncodes': WHATEVER THE INPUT: true; the input reads as it did. -/
def headerEncodesSpec : ChangeSpec := { name := "headerEncodes", fn := fun _ => fun
  | [d] => { results := [.lit (.bool true)], args := [d] }
  | _ => none }
def headerEncodesRow : OpenClaim := { program := "ythfgjhffcbehbaadoor", sum := "3aaff48353707dfe75af769fb745b6e5709d60d1b5e95b5a6f779816867a08c7", func := "analemma/analemmalaw05.HeaderEncodes", spec := "headerEncodes", unfollowed := true, recurses := true, named := ["analemma/header.bounds"], apart := false, laid := [("analemma/header.bounds", laid_analemma_header_bounds)] }
def HeaderEncodesSaid : Prop := headerEncodesRow.holds Tryd.pinned (OpenSpec.ofChange headerEncodesSpec)

/-- ITS FALSE NEIGHBOUR: 'it returns false'. Refute it at one input. -/
def headerEncodesWrong : ChangeSpec := { name := "headerEncodes", fn := fun _ => fun
  | [d] => { results := [.lit (.bool false)], args := [d] }
  | _ => none }
def HeaderEncodesWrongFalsely : Prop := headerEncodesRow.holds Tryd.pinned (OpenSpec.ofChange headerEncodesWrong)

/-- 'analemmalaw05.HeaderDecodes': WHATEVER THE INPUT: true; the input reads as it did. -/
def headerDecodesSpec : ChangeSpec := { name := "headerDecodes", fn := fun _ => fun
  | [d] => { results := [.lit (.bool true)], args := [d] }
  | _ => none }
def headerDecodesRow : OpenClaim := { program := "ythfgjhffcbehbaadoor", sum := "3aaff48353707dfe75af769fb745b6e5709d60d1b5e95b5a6f779816867a08c7", func := "analemma/analemmalaw05.HeaderDecodes", spec := "headerDecodes", unfollowed := true, recurses := true, named := ["analemma/header.bounds"], apart := false, laid := [("analemma/header.bounds", laid_analemma_header_bounds)] }
def HeaderDecodesSaid : Prop := headerDecodesRow.holds Tryd.pinned (OpenSpec.ofChange headerDecodesSpec)

/-- ITS FALSE NEIGHBOUR: 'it returns false'. Refute it at one input. -/
def headerDecodesWrong : ChangeSpec := { name := "headerDecodes", fn := fun _ => fun
  | [d] => { results := [.lit (.bool false)], args := [d] }
  | _ => none }
def HeaderDecodesWrongFalsely : Prop := headerDecodesRow.holds Tryd.pinned (OpenSpec.ofChange headerDecodesWrong)

/-- 'analemmalaw05.HeaderAsks': WHATEVER THE INPUT: true; the input reads as it did. -/
def headerAsksSpec : ChangeSpec := { name := "headerAsks", fn := fun _ => fun
  | [d1, d2, d3, d4] => { results := [.lit (.bool true)], args := [d1, d2, d3, d4] }
  | _ => none }
def headerAsksRow : OpenClaim := { program := "ythfgjhffcbehbaadoor", sum := "3aaff48353707dfe75af769fb745b6e5709d60d1b5e95b5a6f779816867a08c7", func := "analemma/analemmalaw05.HeaderAsks", spec := "headerAsks", unfollowed := true, recurses := true, named := ["analemma/header.bounds"], apart := false, laid := [("analemma/header.bounds", laid_analemma_header_bounds)] }
def HeaderAsksSaid : Prop := headerAsksRow.holds Tryd.pinned (OpenSpec.ofChange headerAsksSpec)

/-- ITS FALSE NEIGHBOUR: 'it returns false'. Refute it at one input. -/
def headerAsksWrong : ChangeSpec := { name := "headerAsks", fn := fun _ => fun
  | [d1, d2, d3, d4] => { results := [.lit (.bool false)], args := [d1, d2, d3, d4] }
  | _ => none }
def HeaderAsksWrongFalsely : Prop := headerAsksRow.holds Tryd.pinned (OpenSpec.ofChange headerAsksWrong)

/-- 'analemmalaw05.HeaderApart': WHATEVER THE INPUT: true; the input reads as it did. -/
def headerApartSpec : ChangeSpec := { name := "headerApart", fn := fun _ => fun
  | [d1, d2, d3, d4] => { results := [.lit (.bool true)], args := [d1, d2, d3, d4] }
  | _ => none }
def headerApartRow : OpenClaim := { program := "ythfgjhffcbehbaadoor", sum := "3aaff48353707dfe75af769fb745b6e5709d60d1b5e95b5a6f779816867a08c7", func := "analemma/analemmalaw05.HeaderApart", spec := "headerApart", unfollowed := true, recurses := true, named := ["analemma/header.bounds"], apart := false, laid := [("analemma/header.bounds", laid_analemma_header_bounds)] }
def HeaderApartSaid : Prop := headerApartRow.holds Tryd.pinned (OpenSpec.ofChange headerApartSpec)

/-- ITS FALSE NEIGHBOUR: 'it returns false'. Refute it at one input. -/
def headerApartWrong : ChangeSpec := { name := "headerApart", fn := fun _ => fun
  | [d1, d2, d3, d4] => { results := [.lit (.bool false)], args := [d1, d2, d3, d4] }
  | _ => none }
def HeaderApartWrongFalsely : Prop := headerApartRow.holds Tryd.pinned (OpenSpec.ofChange headerApartWrong)

/-- 'analemmalaw05.HeaderFirst': WHATEVER THE INPUT: true; the input reads as it did. -/
def headerFirstSpec : ChangeSpec := { name := "headerFirst", fn := fun _ => fun
  | [d1, d2] => { results := [.lit (.bool true)], args := [d1, d2] }
  | _ => none }
def headerFirstRow : OpenClaim := { program := "ythfgjhffcbehbaadoor", sum := "3aaff48353707dfe75af769fb745b6e5709d60d1b5e95b5a6f779816867a08c7", func := "analemma/analemmalaw05.HeaderFirst", spec := "headerFirst", unfollowed := true, recurses := true, named := ["analemma/header.bounds"], apart := false, laid := [("analemma/header.bounds", laid_analemma_header_bounds)] }
def HeaderFirstSaid : Prop := headerFirstRow.holds Tryd.pinned (OpenSpec.ofChange headerFirstSpec)

/-- ITS FALSE NEIGHBOUR: 'it returns false'. Refute it at one input. -/
def headerFirstWrong : ChangeSpec := { name := "headerFirst", fn := fun _ => fun
  | [d1, d2] => { results := [.lit (.bool false)], args := [d1, d2] }
  | _ => none }
def HeaderFirstWrongFalsely : Prop := headerFirstRow.holds Tryd.pinned (OpenSpec.ofChange headerFirstWrong)

/- THE SECOND FORM. 'bulk': how many values and letters a reading holds, each counted each time it is reached (what is shared counts as often as it is met; a slice's spare places count too). A statement '..UptoSaid' is the law's where the arguments, and the package variables that the reading takes, are together of bulk at most 1048576: NARROWER than '..Said'. Prove '..Said' where nothing that the law and all that it calls make is longer than what came in: it says more and counts as full. Else prove '..UptoSaid'. A law counts once. -/
mutual
def uptoBulk {H : Type} : DataW H → Nat
  | .lit (.string bytes) => bytes.length + 1
  | .lit _ => 1
  | .nil => 1
  | .ptr d => uptoBulk d + 1
  | .slice elems spare => uptoBulkAll elems + uptoBulkAll spare + 1
  | .agg parts => uptoBulkAll parts + 1
  | .iface _ d => uptoBulk d + 1
  | .map entries => uptoBulkEntries entries + 1
  | .held _ => 1
def uptoBulkAll {H : Type} : List (DataW H) → Nat
  | [] => 0
  | d :: r => uptoBulk d + uptoBulkAll r
def uptoBulkEntries {H : Type} : List (Lit × DataW H) → Nat
  | [] => 0
  | x :: r => uptoBulkEntry x + uptoBulkEntries r
def uptoBulkEntry {H : Type} : Lit × DataW H → Nat
  | (.string bytes, d) => bytes.length + uptoBulk d + 1
  | (_, d) => uptoBulk d + 1
 end
def uptoSmall : (H : Type) → List (DataW H) → Bool := fun _ ds => decide (uptoBulkAll ds ≤ 1048576)
def OpenSpec.upto (s : _root_.Go.ChangeSpec) : _root_.Go.OpenSpec := { _root_.Go.OpenSpec.ofChange s with cond := some uptoSmall }

/-- 'analemmalaw05.HeaderEncodes', WHERE WHAT IT READS IS OF BULK AT MOST 1048576: true; the input reads as it did. -/
def headerEncodesUptoRow : OpenClaim := { program := "ythfgjhffcbehbaadoor", sum := "3aaff48353707dfe75af769fb745b6e5709d60d1b5e95b5a6f779816867a08c7", func := "analemma/analemmalaw05.HeaderEncodes", spec := "headerEncodes", unfollowed := true, recurses := true, named := ["analemma/header.bounds"], apart := false, laid := [("analemma/header.bounds", laid_analemma_header_bounds)], narrowed := true }
def HeaderEncodesUptoSaid : Prop := headerEncodesUptoRow.holds Tryd.pinned (OpenSpec.upto headerEncodesSpec)

/-- 'analemmalaw05.HeaderDecodes', WHERE WHAT IT READS IS OF BULK AT MOST 1048576: true; the input reads as it did. -/
def headerDecodesUptoRow : OpenClaim := { program := "ythfgjhffcbehbaadoor", sum := "3aaff48353707dfe75af769fb745b6e5709d60d1b5e95b5a6f779816867a08c7", func := "analemma/analemmalaw05.HeaderDecodes", spec := "headerDecodes", unfollowed := true, recurses := true, named := ["analemma/header.bounds"], apart := false, laid := [("analemma/header.bounds", laid_analemma_header_bounds)], narrowed := true }
def HeaderDecodesUptoSaid : Prop := headerDecodesUptoRow.holds Tryd.pinned (OpenSpec.upto headerDecodesSpec)

/-- 'analemmalaw05.HeaderAsks', WHERE WHAT IT READS IS OF BULK AT MOST 1048576: true; the input reads as it did. -/
def headerAsksUptoRow : OpenClaim := { program := "ythfgjhffcbehbaadoor", sum := "3aaff48353707dfe75af769fb745b6e5709d60d1b5e95b5a6f779816867a08c7", func := "analemma/analemmalaw05.HeaderAsks", spec := "headerAsks", unfollowed := true, recurses := true, named := ["analemma/header.bounds"], apart := false, laid := [("analemma/header.bounds", laid_analemma_header_bounds)], narrowed := true }
def HeaderAsksUptoSaid : Prop := headerAsksUptoRow.holds Tryd.pinned (OpenSpec.upto headerAsksSpec)

/-- 'analemmalaw05.HeaderApart', WHERE WHAT IT READS IS OF BULK AT MOST 1048576: true; the input reads as it did. -/
def headerApartUptoRow : OpenClaim := { program := "ythfgjhffcbehbaadoor", sum := "3aaff48353707dfe75af769fb745b6e5709d60d1b5e95b5a6f779816867a08c7", func := "analemma/analemmalaw05.HeaderApart", spec := "headerApart", unfollowed := true, recurses := true, named := ["analemma/header.bounds"], apart := false, laid := [("analemma/header.bounds", laid_analemma_header_bounds)], narrowed := true }
def HeaderApartUptoSaid : Prop := headerApartUptoRow.holds Tryd.pinned (OpenSpec.upto headerApartSpec)

/-- 'analemmalaw05.HeaderFirst', WHERE WHAT IT READS IS OF BULK AT MOST 1048576: true; the input reads as it did. -/
def headerFirstUptoRow : OpenClaim := { program := "ythfgjhffcbehbaadoor", sum := "3aaff48353707dfe75af769fb745b6e5709d60d1b5e95b5a6f779816867a08c7", func := "analemma/analemmalaw05.HeaderFirst", spec := "headerFirst", unfollowed := true, recurses := true, named := ["analemma/header.bounds"], apart := false, laid := [("analemma/header.bounds", laid_analemma_header_bounds)], narrowed := true }
def HeaderFirstUptoSaid : Prop := headerFirstUptoRow.holds Tryd.pinned (OpenSpec.upto headerFirstSpec)

end Rows
end Go.Proofs.YthfgjhffcbehbaaDoor
