/- The document's own answers of layer 10, walked: faults. -/
import Derived.Test.YtjelbpibofngiaaStC
import Derived.Test.YtjelbpibofngiaaQtB
import Derived.Laws.AppendOwn
namespace Go.Proofs.Ytjelbpibofngiaa.W
open Go.RowKit Go.Sort
set_option linter.unusedVariables false
set_option linter.unusedSimpArgs false
theorem own_num {f l h : Nat} (e : wiE f l h = 0) : isN f ∧ V l ≤ V f ∧ V f ≤ V h := by
  unfold wiE at e
  split at e
  · omega
  · rename_i e0
    split at e
    · omega
    · split at e
      · omega
      · split at e
        · cases e
        · refine ⟨?_, by omega, by omega⟩
          have e0 : ofE f = 0 := by omega
          unfold ofE at e0
          split at e0
          · cases e0
          · unfold isN; omega
theorem twelve_at {w : World} {p : Nat} {a0 a1 a2 a3 a4 a5 a6 a7 a8 a9 a10 a11 : Value} {t : TypeId} (h : w.heap[p]? = some (.cells #[a0, a1, a2, a3, a4, a5, a6, a7, a8, a9, a10, a11] t (0, 0))) :
    w.cell? ⟨p, 0, none⟩ = some a0 ∧ w.cell? ⟨p, 1, none⟩ = some a1 ∧ w.cell? ⟨p, 2, none⟩ = some a2 ∧ w.cell? ⟨p, 3, none⟩ = some a3 ∧ w.cell? ⟨p, 4, none⟩ = some a4 ∧ w.cell? ⟨p, 5, none⟩ = some a5 ∧ w.cell? ⟨p, 6, none⟩ = some a6 ∧ w.cell? ⟨p, 7, none⟩ = some a7 ∧ w.cell? ⟨p, 8, none⟩ = some a8 ∧ w.cell? ⟨p, 9, none⟩ = some a9 ∧ w.cell? ⟨p, 10, none⟩ = some a10 ∧ w.cell? ⟨p, 11, none⟩ = some a11 := by
  refine ⟨?_, ?_, ?_, ?_, ?_, ?_, ?_, ?_, ?_, ?_, ?_, ?_⟩ <;> simp [World.cell?, h]
end Go.Proofs.Ytjelbpibofngiaa.W
