/-
  No cell of these rows narrows 'for every input' (looked for: loops, veiled, ifaces, maps, wideKeys, modest, calm, conditions, laid).
  DERIVED. THE GIVEN ROWS OF THIS SEAT. 6 by the template 'for every input the law returns true; each argument reads behind the call as it read before'; 0 by the template 'total and deterministic' (their statements: YtodlmdbgkopdnaaTotals.lean).
  GIVEN WITH THE SEED: the statements are not yours to turn. If you find one false, say at which input.
  Laid BY PROGRAM, IN A SANDBOX (cutbox-rows.mjs): the forced cells as the released guide's own fill.sh prints them over the translation 4a77959e242e33b9… (all of the seat's roots in one cut). By AI agents, Wed Nov 11 2026. No macro, syntax, notation, axiom, sorry.
-/
import Derived.Test.YtodlmdbgkopdnaaChecked
import GoSem.Claim
import GoSem.ClaimJoined
import GoSem.ClaimMapViews
import Derived.JoinedTies
import Derived.KernelRfl
namespace Go.Proofs.Ytodlmdbgkopdnaa
/- THE CELL 'sum', in the pinned program and in every row, IS THE sha256 OF THE DUMP (.gsa) THAT YtodlmdbgkopdnaaProg.lean LOADS. Nothing in Lean hashes anything: it is a label: what it is worth is what the hold of that sum in a sandbox is worth. -/
noncomputable def Try.pinned : Pinned := { name := "ytodlmdbgkopdnaa", sum := "4a77959e242e33b9daa2d3179f5d1f5027c9c1a6e2ec54d7ee120a75bba7f93c", checked := Try.checked }
namespace Rows
def none {H : Type} : Left H := { results := [], args := [] }

/-- 'analemmalaw03.FloatyTells': WHATEVER THE INPUT: true; the input reads as it did. -/
def floatyTellsSpec : ChangeSpec := { name := "floatyTells", fn := fun _ => fun
  | [d1, d2, d3, d4] => { results := [.lit (.bool true)], args := [d1, d2, d3, d4] }
  | _ => none }
def floatyTellsRow : OpenClaim := { program := "ytodlmdbgkopdnaa", sum := "4a77959e242e33b9daa2d3179f5d1f5027c9c1a6e2ec54d7ee120a75bba7f93c", func := "analemma/analemmalaw03.FloatyTells", spec := "floatyTells", inPlace := ["math.Float64bits", "math.archFloor", "math.Float64frombits", "math.archTrunc"], apart := false }
def FloatyTellsSaid : Prop := floatyTellsRow.holds Try.pinned (OpenSpec.ofChange floatyTellsSpec)

/-- ITS FALSE NEIGHBOUR: 'it returns false'. Refute it at one input. -/
def floatyTellsWrong : ChangeSpec := { name := "floatyTells", fn := fun _ => fun
  | [d1, d2, d3, d4] => { results := [.lit (.bool false)], args := [d1, d2, d3, d4] }
  | _ => none }
def FloatyTellsWrongFalsely : Prop := floatyTellsRow.holds Try.pinned (OpenSpec.ofChange floatyTellsWrong)

/-- 'analemmalaw03.FloatyMax': WHATEVER THE INPUT: true; the input reads as it did. -/
def floatyMaxSpec : ChangeSpec := { name := "floatyMax", fn := fun _ => fun
  | [d] => { results := [.lit (.bool true)], args := [d] }
  | _ => none }
def floatyMaxRow : OpenClaim := { program := "ytodlmdbgkopdnaa", sum := "4a77959e242e33b9daa2d3179f5d1f5027c9c1a6e2ec54d7ee120a75bba7f93c", func := "analemma/analemmalaw03.FloatyMax", spec := "floatyMax", inPlace := ["math.Float64bits", "math.archFloor", "math.Float64frombits", "math.archTrunc"], apart := false }
def FloatyMaxSaid : Prop := floatyMaxRow.holds Try.pinned (OpenSpec.ofChange floatyMaxSpec)

/-- ITS FALSE NEIGHBOUR: 'it returns false'. Refute it at one input. -/
def floatyMaxWrong : ChangeSpec := { name := "floatyMax", fn := fun _ => fun
  | [d] => { results := [.lit (.bool false)], args := [d] }
  | _ => none }
def FloatyMaxWrongFalsely : Prop := floatyMaxRow.holds Try.pinned (OpenSpec.ofChange floatyMaxWrong)

/-- 'analemmalaw03.FloatyRises': WHATEVER THE INPUT: true; the input reads as it did. -/
def floatyRisesSpec : ChangeSpec := { name := "floatyRises", fn := fun _ => fun
  | [d1, d2] => { results := [.lit (.bool true)], args := [d1, d2] }
  | _ => none }
def floatyRisesRow : OpenClaim := { program := "ytodlmdbgkopdnaa", sum := "4a77959e242e33b9daa2d3179f5d1f5027c9c1a6e2ec54d7ee120a75bba7f93c", func := "analemma/analemmalaw03.FloatyRises", spec := "floatyRises", inPlace := ["math.Float64bits", "math.archFloor", "math.Float64frombits", "math.archTrunc"], apart := false }
def FloatyRisesSaid : Prop := floatyRisesRow.holds Try.pinned (OpenSpec.ofChange floatyRisesSpec)

/-- ITS FALSE NEIGHBOUR: 'it returns false'. Refute it at one input. -/
def floatyRisesWrong : ChangeSpec := { name := "floatyRises", fn := fun _ => fun
  | [d1, d2] => { results := [.lit (.bool false)], args := [d1, d2] }
  | _ => none }
def FloatyRisesWrongFalsely : Prop := floatyRisesRow.holds Try.pinned (OpenSpec.ofChange floatyRisesWrong)

/-- 'analemmalaw03.FloatyBack': WHATEVER THE INPUT: true; the input reads as it did. -/
def floatyBackSpec : ChangeSpec := { name := "floatyBack", fn := fun _ => fun
  | [d1, d2] => { results := [.lit (.bool true)], args := [d1, d2] }
  | _ => none }
def floatyBackRow : OpenClaim := { program := "ytodlmdbgkopdnaa", sum := "4a77959e242e33b9daa2d3179f5d1f5027c9c1a6e2ec54d7ee120a75bba7f93c", func := "analemma/analemmalaw03.FloatyBack", spec := "floatyBack", inPlace := ["math.Float64bits", "math.archFloor", "math.Float64frombits", "math.archTrunc"], apart := false }
def FloatyBackSaid : Prop := floatyBackRow.holds Try.pinned (OpenSpec.ofChange floatyBackSpec)

/-- ITS FALSE NEIGHBOUR: 'it returns false'. Refute it at one input. -/
def floatyBackWrong : ChangeSpec := { name := "floatyBack", fn := fun _ => fun
  | [d1, d2] => { results := [.lit (.bool false)], args := [d1, d2] }
  | _ => none }
def FloatyBackWrongFalsely : Prop := floatyBackRow.holds Try.pinned (OpenSpec.ofChange floatyBackWrong)

/-- 'analemmalaw03.FloatyKinds': WHATEVER THE INPUT: true; the input reads as it did. -/
def floatyKindsSpec : ChangeSpec := { name := "floatyKinds", fn := fun _ => fun
  | [d] => { results := [.lit (.bool true)], args := [d] }
  | _ => none }
def floatyKindsRow : OpenClaim := { program := "ytodlmdbgkopdnaa", sum := "4a77959e242e33b9daa2d3179f5d1f5027c9c1a6e2ec54d7ee120a75bba7f93c", func := "analemma/analemmalaw03.FloatyKinds", spec := "floatyKinds", inPlace := ["math.Float64bits", "math.archFloor", "math.Float64frombits", "math.archTrunc"], apart := false }
def FloatyKindsSaid : Prop := floatyKindsRow.holds Try.pinned (OpenSpec.ofChange floatyKindsSpec)

/-- ITS FALSE NEIGHBOUR: 'it returns false'. Refute it at one input. -/
def floatyKindsWrong : ChangeSpec := { name := "floatyKinds", fn := fun _ => fun
  | [d] => { results := [.lit (.bool false)], args := [d] }
  | _ => none }
def FloatyKindsWrongFalsely : Prop := floatyKindsRow.holds Try.pinned (OpenSpec.ofChange floatyKindsWrong)

/-- 'analemmalaw03.FloatyWithin': WHATEVER THE INPUT: true; the input reads as it did. -/
def floatyWithinSpec : ChangeSpec := { name := "floatyWithin", fn := fun _ => fun
  | [d1, d2, d3, d4] => { results := [.lit (.bool true)], args := [d1, d2, d3, d4] }
  | _ => none }
def floatyWithinRow : OpenClaim := { program := "ytodlmdbgkopdnaa", sum := "4a77959e242e33b9daa2d3179f5d1f5027c9c1a6e2ec54d7ee120a75bba7f93c", func := "analemma/analemmalaw03.FloatyWithin", spec := "floatyWithin", inPlace := ["math.Float64bits", "math.archFloor", "math.Float64frombits", "math.archTrunc"], apart := false }
def FloatyWithinSaid : Prop := floatyWithinRow.holds Try.pinned (OpenSpec.ofChange floatyWithinSpec)

/-- ITS FALSE NEIGHBOUR: 'it returns false'. Refute it at one input. -/
def floatyWithinWrong : ChangeSpec := { name := "floatyWithin", fn := fun _ => fun
  | [d1, d2, d3, d4] => { results := [.lit (.bool false)], args := [d1, d2, d3, d4] }
  | _ => none }
def FloatyWithinWrongFalsely : Prop := floatyWithinRow.holds Try.pinned (OpenSpec.ofChange floatyWithinWrong)

/- THE SECOND FORM. 'bulk': how many values and letters a reading holds, each counted each time it is reached (what is shared counts as often as it is met; a slice's spare places count too). A statement '..UptoSaid' is the law's where the arguments, and the package variables that the reading takes, are together of bulk at most 1048576: NARROWER than '..Said'. Prove '..Said' where nothing that the law and all that it calls make is longer than what came in: it says more and counts as full. Else prove '..UptoSaid'. A law counts once. -/
mutual
def uptoBulk {H : Type} : DataW H → Nat
  | .lit (.string bytes) => bytes.length + 1
  | .lit _ => 1
  | .nil => 1
  | .ptr d => uptoBulk d + 1
  | .slice elems spare => uptoBulkAll elems + uptoBulkAll spare + 1
  | .agg parts => uptoBulkAll parts + 1
  | .iface _ d => uptoBulk d + 1
  | .map entries => uptoBulkEntries entries + 1
  | .held _ => 1
def uptoBulkAll {H : Type} : List (DataW H) → Nat
  | [] => 0
  | d :: r => uptoBulk d + uptoBulkAll r
def uptoBulkEntries {H : Type} : List (Lit × DataW H) → Nat
  | [] => 0
  | x :: r => uptoBulkEntry x + uptoBulkEntries r
def uptoBulkEntry {H : Type} : Lit × DataW H → Nat
  | (.string bytes, d) => bytes.length + uptoBulk d + 1
  | (_, d) => uptoBulk d + 1
 end
def uptoSmall : (H : Type) → List (DataW H) → Bool := fun _ ds => decide (uptoBulkAll ds ≤ 1048576)
def OpenSpec.upto (s : _root_.Go.ChangeSpec) : _root_.Go.OpenSpec := { _root_.Go.OpenSpec.ofChange s with cond := some uptoSmall }

/-- 'analemmalaw03.FloatyTells', WHERE WHAT IT READS IS OF BULK AT MOST 1048576: true; the input reads as it did. -/
def floatyTellsUptoRow : OpenClaim := { program := "ytodlmdbgkopdnaa", sum := "4a77959e242e33b9daa2d3179f5d1f5027c9c1a6e2ec54d7ee120a75bba7f93c", func := "analemma/analemmalaw03.FloatyTells", spec := "floatyTells", inPlace := ["math.Float64bits", "math.archFloor", "math.Float64frombits", "math.archTrunc"], apart := false, narrowed := true }
def FloatyTellsUptoSaid : Prop := floatyTellsUptoRow.holds Try.pinned (OpenSpec.upto floatyTellsSpec)

/-- 'analemmalaw03.FloatyMax', WHERE WHAT IT READS IS OF BULK AT MOST 1048576: true; the input reads as it did. -/
def floatyMaxUptoRow : OpenClaim := { program := "ytodlmdbgkopdnaa", sum := "4a77959e242e33b9daa2d3179f5d1f5027c9c1a6e2ec54d7ee120a75bba7f93c", func := "analemma/analemmalaw03.FloatyMax", spec := "floatyMax", inPlace := ["math.Float64bits", "math.archFloor", "math.Float64frombits", "math.archTrunc"], apart := false, narrowed := true }
def FloatyMaxUptoSaid : Prop := floatyMaxUptoRow.holds Try.pinned (OpenSpec.upto floatyMaxSpec)

/-- 'analemmalaw03.FloatyRises', WHERE WHAT IT READS IS OF BULK AT MOST 1048576: true; the input reads as it did. -/
def floatyRisesUptoRow : OpenClaim := { program := "ytodlmdbgkopdnaa", sum := "4a77959e242e33b9daa2d3179f5d1f5027c9c1a6e2ec54d7ee120a75bba7f93c", func := "analemma/analemmalaw03.FloatyRises", spec := "floatyRises", inPlace := ["math.Float64bits", "math.archFloor", "math.Float64frombits", "math.archTrunc"], apart := false, narrowed := true }
def FloatyRisesUptoSaid : Prop := floatyRisesUptoRow.holds Try.pinned (OpenSpec.upto floatyRisesSpec)

/-- 'analemmalaw03.FloatyBack', WHERE WHAT IT READS IS OF BULK AT MOST 1048576: true; the input reads as it did. -/
def floatyBackUptoRow : OpenClaim := { program := "ytodlmdbgkopdnaa", sum := "4a77959e242e33b9daa2d3179f5d1f5027c9c1a6e2ec54d7ee120a75bba7f93c", func := "analemma/analemmalaw03.FloatyBack", spec := "floatyBack", inPlace := ["math.Float64bits", "math.archFloor", "math.Float64frombits", "math.archTrunc"], apart := false, narrowed := true }
def FloatyBackUptoSaid : Prop := floatyBackUptoRow.holds Try.pinned (OpenSpec.upto floatyBackSpec)

/-- 'analemmalaw03.FloatyKinds', WHERE WHAT IT READS IS OF BULK AT MOST 1048576: true; the input reads as it did. -/
def floatyKindsUptoRow : OpenClaim := { program := "ytodlmdbgkopdnaa", sum := "4a77959e242e33b9daa2d3179f5d1f5027c9c1a6e2ec54d7ee120a75bba7f93c", func := "analemma/analemmalaw03.FloatyKinds", spec := "floatyKinds", inPlace := ["math.Float64bits", "math.archFloor", "math.Float64frombits", "math.archTrunc"], apart := false, narrowed := true }
def FloatyKindsUptoSaid : Prop := floatyKindsUptoRow.holds Try.pinned (OpenSpec.upto floatyKindsSpec)

/-- 'analemmalaw03.FloatyWithin', WHERE WHAT IT READS IS OF BULK AT MOST 1048576: true; the input reads as it did. -/
def floatyWithinUptoRow : OpenClaim := { program := "ytodlmdbgkopdnaa", sum := "4a77959e242e33b9daa2d3179f5d1f5027c9c1a6e2ec54d7ee120a75bba7f93c", func := "analemma/analemmalaw03.FloatyWithin", spec := "floatyWithin", inPlace := ["math.Float64bits", "math.archFloor", "math.Float64frombits", "math.archTrunc"], apart := false, narrowed := true }
def FloatyWithinUptoSaid : Prop := floatyWithinUptoRow.holds Try.pinned (OpenSpec.upto floatyWithinSpec)

end Rows
end Go.Proofs.Ytodlmdbgkopdnaa
