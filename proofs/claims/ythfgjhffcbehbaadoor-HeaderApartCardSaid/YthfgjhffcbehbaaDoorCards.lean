/-
  DERIVED. GIVEN WITH THE SEED: THE CARDS: each row of YthfgjhffcbehbaaDoorRows.lean that lists a variable, with what it lists TIED to the program's text (the seventh form; the later family's looks); each row that meets fmt, with fmt's text TOLD by the authors' own Lean function (tested against real Go, not proved from fmt's source: count such statements apart). THE CARD IS WHAT COUNTS. Prove the row's statement (the work); the ties are given (YthfgjhffcbehbaaDoorTie.lean); close each card by the builder's one call (the guide's Derived/Test/ToyasCard.lean, 'card_holds'). Laid BY PROGRAM, IN A SANDBOX (cutbox-door.mjs). By AI agents, Wed Nov 11 2026. No macro, syntax, notation, axiom, sorry.
-/
import Derived.Test.YthfgjhffcbehbaaDoorRows
import GoSem.ClaimSeven
namespace Go.Proofs.YthfgjhffcbehbaaDoor
namespace Rows

/-- THE TIED CARD OF 'analemmalaw05.HeaderEncodes'. -/
def headerEncodesCard : Claim7 := { stood := { row := headerEncodesRow, standIns := [], harness := (true, "b42c28b1302fe9a735af8d0bc39b1c1a83fa562788e692b5e8920c60775499e8"), looks := false }, kinds := [], alts := [], laidByText := true, laidKinds := [.data], laidTests := true, laidLooks := .later }
def HeaderEncodesCardSaid : Prop := Claim7.holds Tryd.pinned (.plain (OpenSpec.ofChange headerEncodesSpec)) headerEncodesCard

/-- THE TIED CARD OF 'analemmalaw05.HeaderDecodes'. -/
def headerDecodesCard : Claim7 := { stood := { row := headerDecodesRow, standIns := [], harness := (true, "b42c28b1302fe9a735af8d0bc39b1c1a83fa562788e692b5e8920c60775499e8"), looks := false }, kinds := [], alts := [], laidByText := true, laidKinds := [.data], laidTests := true, laidLooks := .later }
def HeaderDecodesCardSaid : Prop := Claim7.holds Tryd.pinned (.plain (OpenSpec.ofChange headerDecodesSpec)) headerDecodesCard

/-- THE TIED CARD OF 'analemmalaw05.HeaderAsks'. -/
def headerAsksCard : Claim7 := { stood := { row := headerAsksRow, standIns := [], harness := (true, "b42c28b1302fe9a735af8d0bc39b1c1a83fa562788e692b5e8920c60775499e8"), looks := false }, kinds := [], alts := [], laidByText := true, laidKinds := [.data], laidTests := true, laidLooks := .later }
def HeaderAsksCardSaid : Prop := Claim7.holds Tryd.pinned (.plain (OpenSpec.ofChange headerAsksSpec)) headerAsksCard

/-- THE TIED CARD OF 'analemmalaw05.HeaderApart'. -/
def headerApartCard : Claim7 := { stood := { row := headerApartRow, standIns := [], harness := (true, "b42c28b1302fe9a735af8d0bc39b1c1a83fa562788e692b5e8920c60775499e8"), looks := false }, kinds := [], alts := [], laidByText := true, laidKinds := [.data], laidTests := true, laidLooks := .later }
def HeaderApartCardSaid : Prop := Claim7.holds Tryd.pinned (.plain (OpenSpec.ofChange headerApartSpec)) headerApartCard

/-- THE TIED CARD OF 'analemmalaw05.HeaderFirst'. -/
def headerFirstCard : Claim7 := { stood := { row := headerFirstRow, standIns := [], harness := (true, "b42c28b1302fe9a735af8d0bc39b1c1a83fa562788e692b5e8920c60775499e8"), looks := false }, kinds := [], alts := [], laidByText := true, laidKinds := [.data], laidTests := true, laidLooks := .later }
def HeaderFirstCardSaid : Prop := Claim7.holds Tryd.pinned (.plain (OpenSpec.ofChange headerFirstSpec)) headerFirstCard

/-- THE SECOND FORM's CARD OF 'analemmalaw05.HeaderEncodes'. -/
def headerEncodesUptoCard : Claim7 := { stood := { row := headerEncodesUptoRow, standIns := [], harness := (true, "b42c28b1302fe9a735af8d0bc39b1c1a83fa562788e692b5e8920c60775499e8"), looks := false }, kinds := [], alts := [], laidByText := true, laidKinds := [.data], laidTests := true, laidLooks := .later }
def HeaderEncodesUptoCardSaid : Prop := Claim7.holds Tryd.pinned (.plain (OpenSpec.upto headerEncodesSpec)) headerEncodesUptoCard

/-- THE SECOND FORM's CARD OF 'analemmalaw05.HeaderDecodes'. -/
def headerDecodesUptoCard : Claim7 := { stood := { row := headerDecodesUptoRow, standIns := [], harness := (true, "b42c28b1302fe9a735af8d0bc39b1c1a83fa562788e692b5e8920c60775499e8"), looks := false }, kinds := [], alts := [], laidByText := true, laidKinds := [.data], laidTests := true, laidLooks := .later }
def HeaderDecodesUptoCardSaid : Prop := Claim7.holds Tryd.pinned (.plain (OpenSpec.upto headerDecodesSpec)) headerDecodesUptoCard

/-- THE SECOND FORM's CARD OF 'analemmalaw05.HeaderAsks'. -/
def headerAsksUptoCard : Claim7 := { stood := { row := headerAsksUptoRow, standIns := [], harness := (true, "b42c28b1302fe9a735af8d0bc39b1c1a83fa562788e692b5e8920c60775499e8"), looks := false }, kinds := [], alts := [], laidByText := true, laidKinds := [.data], laidTests := true, laidLooks := .later }
def HeaderAsksUptoCardSaid : Prop := Claim7.holds Tryd.pinned (.plain (OpenSpec.upto headerAsksSpec)) headerAsksUptoCard

/-- THE SECOND FORM's CARD OF 'analemmalaw05.HeaderApart'. -/
def headerApartUptoCard : Claim7 := { stood := { row := headerApartUptoRow, standIns := [], harness := (true, "b42c28b1302fe9a735af8d0bc39b1c1a83fa562788e692b5e8920c60775499e8"), looks := false }, kinds := [], alts := [], laidByText := true, laidKinds := [.data], laidTests := true, laidLooks := .later }
def HeaderApartUptoCardSaid : Prop := Claim7.holds Tryd.pinned (.plain (OpenSpec.upto headerApartSpec)) headerApartUptoCard

/-- THE SECOND FORM's CARD OF 'analemmalaw05.HeaderFirst'. -/
def headerFirstUptoCard : Claim7 := { stood := { row := headerFirstUptoRow, standIns := [], harness := (true, "b42c28b1302fe9a735af8d0bc39b1c1a83fa562788e692b5e8920c60775499e8"), looks := false }, kinds := [], alts := [], laidByText := true, laidKinds := [.data], laidTests := true, laidLooks := .later }
def HeaderFirstUptoCardSaid : Prop := Claim7.holds Tryd.pinned (.plain (OpenSpec.upto headerFirstSpec)) headerFirstUptoCard
end Rows
end Go.Proofs.YthfgjhffcbehbaaDoor
