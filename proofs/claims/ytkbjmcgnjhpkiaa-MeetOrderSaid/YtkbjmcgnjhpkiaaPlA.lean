/- Lists of places in memory; rows that are owned, kept. No program in it. -/
import Derived.Test.YtkbjmcgnjhpkiaaSlA
import Derived.OwnWalk
import Derived.Laws.AppendOwn
namespace Go.Proofs.Ytkbjmcgnjhpkiaa.W
open Go.RowKit Go.Sort
set_option linter.unusedVariables false
def plE (i : Nat) : List Value := [.int .i64 (i : Int)]
theorem plE_length (i : Nat) : (plE i).length = 1 := rfl
theorem own_kept15 {w w' : World} {B e size n : Nat} {v : Value} {xs : List Value} (h : w.ownsRow B e size v n xs) (hb : Below w.heap.size w w') : w'.ownsRow B e size v n xs :=
  h.kept (row := none) ⟨hb.os, hb.tape, hb.output, hb.size, fun k hk _ => hb.block k hk⟩ (Classical.em _)
end Go.Proofs.Ytkbjmcgnjhpkiaa.W
