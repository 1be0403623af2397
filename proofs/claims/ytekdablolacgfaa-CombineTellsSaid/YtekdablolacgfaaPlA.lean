/- Lists of places in memory; rows that are owned, kept. No program in it. -/
import Derived.Test.YtekdablolacgfaaSlA
import Derived.OwnWalk
import Derived.Laws.AppendOwn
namespace Go.Proofs.Ytekdablolacgfaa.W
open Go.RowKit Go.Sort
set_option linter.unusedVariables false
theorem own_kept15 {w w' : World} {B e size n : Nat} {v : Value} {xs : List Value} (h : w.ownsRow B e size v n xs) (hb : Below w.heap.size w w') : w'.ownsRow B e size v n xs :=
  h.kept (row := none) ⟨hb.os, hb.tape, hb.output, hb.size, fun k hk _ => hb.block k hk⟩ (Classical.em _)
theorem new_row15 (w : World) (x : Value) (t : TypeId) : ∀ j u, ([x] : List Value)[j]? = some u → (w.alloc (.cells #[x] t)).cell? ((⟨w.heap.size, 0, none⟩ : Addr).add j) = some u := by
  intro j u hu
  rw [Addr.add_lit, Nat.zero_add]
  match j, hu with
  | 0, hu => simp at hu; subst hu; simp [go_sem]
end Go.Proofs.Ytekdablolacgfaa.W
