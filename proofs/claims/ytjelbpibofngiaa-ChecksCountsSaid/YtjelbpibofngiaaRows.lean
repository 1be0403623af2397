/-
  No cell of these rows narrows 'for every input' (looked for: loops, veiled, ifaces, maps, wideKeys, modest, calm, conditions, laid).
  DERIVED. THE GIVEN ROWS OF THIS SEAT. 4 by the template 'for every input the law returns true; each argument reads behind the call as it read before'; 0 by the template 'total and deterministic' (their statements: YtjelbpibofngiaaTotals.lean).
  GIVEN WITH THE SEED: the statements are not yours to turn. If you find one false, say at which input.
  Laid BY PROGRAM, IN A SANDBOX (cutbox-rows.mjs): the forced cells as the released guide's own fill.sh prints them over the translation 1d3e6632ce63993f… (all of the seat's roots in one cut). By AI agents, Wed Nov 11 2026. No macro, syntax, notation, axiom, sorry.
-/
import Derived.Test.YtjelbpibofngiaaChecked
import GoSem.Claim
import GoSem.ClaimJoined
import GoSem.ClaimMapViews
import Derived.JoinedTies
import Derived.KernelRfl
namespace Go.Proofs.Ytjelbpibofngiaa
/- THE CELL 'sum', in the pinned program and in every row, IS THE sha256 OF THE DUMP (.gsa) THAT YtjelbpibofngiaaProg.lean LOADS. Nothing in Lean hashes anything: it is a label: what it is worth is what the hold of that sum in a sandbox is worth. -/
noncomputable def Try.pinned : Pinned := { name := "ytjelbpibofngiaa", sum := "1d3e6632ce63993f29de3b747f6f5bf44cc7bb9c80656db5a6fd514a0c7738be", checked := Try.checked }
namespace Rows
def none {H : Type} : Left H := { results := [], args := [] }

/-- 'analemmalaw12.ChecksForged': WHATEVER THE INPUT: true; the input reads as it did. -/
def checksForgedSpec : ChangeSpec := { name := "checksForged", fn := fun _ => fun
  | [d1, d2, d3] => { results := [.lit (.bool true)], args := [d1, d2, d3] }
  | _ => none }
def checksForgedRow : OpenClaim := { program := "ytjelbpibofngiaa", sum := "1d3e6632ce63993f29de3b747f6f5bf44cc7bb9c80656db5a6fd514a0c7738be", func := "analemma/analemmalaw12.ChecksForged", spec := "checksForged", inPlace := ["math.Float64bits", "math.archFloor", "math.Float64frombits", "math.archTrunc"], unfollowed := true, recurses := true, apart := false }
def ChecksForgedSaid : Prop := checksForgedRow.holds Try.pinned (OpenSpec.ofChange checksForgedSpec)

/-- ITS FALSE NEIGHBOUR: 'it returns false'. Refute it at one input. -/
def checksForgedWrong : ChangeSpec := { name := "checksForged", fn := fun _ => fun
  | [d1, d2, d3] => { results := [.lit (.bool false)], args := [d1, d2, d3] }
  | _ => none }
def ChecksForgedWrongFalsely : Prop := checksForgedRow.holds Try.pinned (OpenSpec.ofChange checksForgedWrong)

/-- 'analemmalaw12.ChecksTwice': WHATEVER THE INPUT: true; the input reads as it did. -/
def checksTwiceSpec : ChangeSpec := { name := "checksTwice", fn := fun _ => fun
  | [d1, d2, d3, d4] => { results := [.lit (.bool true)], args := [d1, d2, d3, d4] }
  | _ => none }
def checksTwiceRow : OpenClaim := { program := "ytjelbpibofngiaa", sum := "1d3e6632ce63993f29de3b747f6f5bf44cc7bb9c80656db5a6fd514a0c7738be", func := "analemma/analemmalaw12.ChecksTwice", spec := "checksTwice", inPlace := ["math.Float64bits", "math.archFloor", "math.Float64frombits", "math.archTrunc"], unfollowed := true, recurses := true, apart := false }
def ChecksTwiceSaid : Prop := checksTwiceRow.holds Try.pinned (OpenSpec.ofChange checksTwiceSpec)

/-- ITS FALSE NEIGHBOUR: 'it returns false'. Refute it at one input. -/
def checksTwiceWrong : ChangeSpec := { name := "checksTwice", fn := fun _ => fun
  | [d1, d2, d3, d4] => { results := [.lit (.bool false)], args := [d1, d2, d3, d4] }
  | _ => none }
def ChecksTwiceWrongFalsely : Prop := checksTwiceRow.holds Try.pinned (OpenSpec.ofChange checksTwiceWrong)

/-- 'analemmalaw12.ChecksCounts': WHATEVER THE INPUT: true; the input reads as it did. -/
def checksCountsSpec : ChangeSpec := { name := "checksCounts", fn := fun _ => fun
  | [d] => { results := [.lit (.bool true)], args := [d] }
  | _ => none }
def checksCountsRow : OpenClaim := { program := "ytjelbpibofngiaa", sum := "1d3e6632ce63993f29de3b747f6f5bf44cc7bb9c80656db5a6fd514a0c7738be", func := "analemma/analemmalaw12.ChecksCounts", spec := "checksCounts", inPlace := ["math.Float64bits", "math.archFloor", "math.Float64frombits", "math.archTrunc"], unfollowed := true, recurses := true, apart := false }
def ChecksCountsSaid : Prop := checksCountsRow.holds Try.pinned (OpenSpec.ofChange checksCountsSpec)

/-- ITS FALSE NEIGHBOUR: 'it returns false'. Refute it at one input. -/
def checksCountsWrong : ChangeSpec := { name := "checksCounts", fn := fun _ => fun
  | [d] => { results := [.lit (.bool false)], args := [d] }
  | _ => none }
def ChecksCountsWrongFalsely : Prop := checksCountsRow.holds Try.pinned (OpenSpec.ofChange checksCountsWrong)

/-- 'analemmalaw12.ChecksOrder': WHATEVER THE INPUT: true; the input reads as it did. -/
def checksOrderSpec : ChangeSpec := { name := "checksOrder", fn := fun _ => fun
  | [d1, d2] => { results := [.lit (.bool true)], args := [d1, d2] }
  | _ => none }
def checksOrderRow : OpenClaim := { program := "ytjelbpibofngiaa", sum := "1d3e6632ce63993f29de3b747f6f5bf44cc7bb9c80656db5a6fd514a0c7738be", func := "analemma/analemmalaw12.ChecksOrder", spec := "checksOrder", inPlace := ["math.Float64bits", "math.archFloor", "math.Float64frombits", "math.archTrunc"], unfollowed := true, recurses := true, apart := false }
def ChecksOrderSaid : Prop := checksOrderRow.holds Try.pinned (OpenSpec.ofChange checksOrderSpec)

/-- ITS FALSE NEIGHBOUR: 'it returns false'. Refute it at one input. -/
def checksOrderWrong : ChangeSpec := { name := "checksOrder", fn := fun _ => fun
  | [d1, d2] => { results := [.lit (.bool false)], args := [d1, d2] }
  | _ => none }
def ChecksOrderWrongFalsely : Prop := checksOrderRow.holds Try.pinned (OpenSpec.ofChange checksOrderWrong)

/- THE SECOND FORM. 'bulk': how many values and letters a reading holds, each counted each time it is reached (what is shared counts as often as it is met; a slice's spare places count too). A statement '..UptoSaid' is the law's where the arguments, and the package variables that the reading takes, are together of bulk at most 1048576: NARROWER than '..Said'. Prove '..Said' where nothing that the law and all that it calls make is longer than what came in: it says more and counts as full. Else prove '..UptoSaid'. A law counts once. -/
mutual
def uptoBulk {H : Type} : DataW H → Nat
  | .lit (.string bytes) => bytes.length + 1
  | .lit _ => 1
  | .nil => 1
  | .ptr d => uptoBulk d + 1
  | .slice elems spare => uptoBulkAll elems + uptoBulkAll spare + 1
  | .agg parts => uptoBulkAll parts + 1
  | .iface _ d => uptoBulk d + 1
  | .map entries => uptoBulkEntries entries + 1
  | .held _ => 1
def uptoBulkAll {H : Type} : List (DataW H) → Nat
  | [] => 0
  | d :: r => uptoBulk d + uptoBulkAll r
def uptoBulkEntries {H : Type} : List (Lit × DataW H) → Nat
  | [] => 0
  | x :: r => uptoBulkEntry x + uptoBulkEntries r
def uptoBulkEntry {H : Type} : Lit × DataW H → Nat
  | (.string bytes, d) => bytes.length + uptoBulk d + 1
  | (_, d) => uptoBulk d + 1
 end
def uptoSmall : (H : Type) → List (DataW H) → Bool := fun _ ds => decide (uptoBulkAll ds ≤ 1048576)
def OpenSpec.upto (s : _root_.Go.ChangeSpec) : _root_.Go.OpenSpec := { _root_.Go.OpenSpec.ofChange s with cond := some uptoSmall }

/-- 'analemmalaw12.ChecksForged', WHERE WHAT IT READS IS OF BULK AT MOST 1048576: true; the input reads as it did. -/
def checksForgedUptoRow : OpenClaim := { program := "ytjelbpibofngiaa", sum := "1d3e6632ce63993f29de3b747f6f5bf44cc7bb9c80656db5a6fd514a0c7738be", func := "analemma/analemmalaw12.ChecksForged", spec := "checksForged", inPlace := ["math.Float64bits", "math.archFloor", "math.Float64frombits", "math.archTrunc"], unfollowed := true, recurses := true, apart := false, narrowed := true }
def ChecksForgedUptoSaid : Prop := checksForgedUptoRow.holds Try.pinned (OpenSpec.upto checksForgedSpec)

/-- 'analemmalaw12.ChecksTwice', WHERE WHAT IT READS IS OF BULK AT MOST 1048576: true; the input reads as it did. -/
def checksTwiceUptoRow : OpenClaim := { program := "ytjelbpibofngiaa", sum := "1d3e6632ce63993f29de3b747f6f5bf44cc7bb9c80656db5a6fd514a0c7738be", func := "analemma/analemmalaw12.ChecksTwice", spec := "checksTwice", inPlace := ["math.Float64bits", "math.archFloor", "math.Float64frombits", "math.archTrunc"], unfollowed := true, recurses := true, apart := false, narrowed := true }
def ChecksTwiceUptoSaid : Prop := checksTwiceUptoRow.holds Try.pinned (OpenSpec.upto checksTwiceSpec)

/-- 'analemmalaw12.ChecksCounts', WHERE WHAT IT READS IS OF BULK AT MOST 1048576: true; the input reads as it did. -/
def checksCountsUptoRow : OpenClaim := { program := "ytjelbpibofngiaa", sum := "1d3e6632ce63993f29de3b747f6f5bf44cc7bb9c80656db5a6fd514a0c7738be", func := "analemma/analemmalaw12.ChecksCounts", spec := "checksCounts", inPlace := ["math.Float64bits", "math.archFloor", "math.Float64frombits", "math.archTrunc"], unfollowed := true, recurses := true, apart := false, narrowed := true }
def ChecksCountsUptoSaid : Prop := checksCountsUptoRow.holds Try.pinned (OpenSpec.upto checksCountsSpec)

/-- 'analemmalaw12.ChecksOrder', WHERE WHAT IT READS IS OF BULK AT MOST 1048576: true; the input reads as it did. -/
def checksOrderUptoRow : OpenClaim := { program := "ytjelbpibofngiaa", sum := "1d3e6632ce63993f29de3b747f6f5bf44cc7bb9c80656db5a6fd514a0c7738be", func := "analemma/analemmalaw12.ChecksOrder", spec := "checksOrder", inPlace := ["math.Float64bits", "math.archFloor", "math.Float64frombits", "math.archTrunc"], unfollowed := true, recurses := true, apart := false, narrowed := true }
def ChecksOrderUptoSaid : Prop := checksOrderUptoRow.holds Try.pinned (OpenSpec.upto checksOrderSpec)

end Rows
end Go.Proofs.Ytjelbpibofngiaa
