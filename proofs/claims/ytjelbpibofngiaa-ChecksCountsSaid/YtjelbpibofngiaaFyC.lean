/- The walks of layer 3: the reference's Kind and Of; To. -/
import Derived.Test.YtjelbpibofngiaaFyB
namespace Go.Proofs.Ytjelbpibofngiaa.W
open Go.RowKit
set_option linter.unusedVariables false
set_option linter.unusedSimpArgs false
theorem ofE_zero {b : Nat} (h : ofE b = 0) : isIn b ∧ isF b ∧ isN b := by
  unfold ofE at h
  split at h
  · omega
  · split at h
    · omega
    · split at h
      · rename_i k; exact ⟨k, k.isF, k.isF.isN⟩
      · omega
theorem ofE_in {b : Nat} (h : isIn b) : ofE b = 0 := by
  have := h.isF
  unfold isF at this
  unfold ofE
  rw [if_neg (by omega), if_neg (by omega), if_pos h]
end Go.Proofs.Ytjelbpibofngiaa.W
