import Derived.Test.YtekdablolacgfaaFyB
/- The walks of layer 3: the reference's Kind and Of; To. -/
namespace Go.Proofs.Ytekdablolacgfaa.W
open Go.RowKit
set_option linter.unusedVariables false
set_option linter.unusedSimpArgs false
theorem ofE_zero {b : Nat} (h : ofE b = 0) : isIn b ∧ isF b ∧ isN b := by
  unfold ofE at h
  split at h
  · omega
  · split at h
    · omega
    · split at h
      · rename_i k; exact ⟨k, k.isF, k.isF.isN⟩
      · omega
theorem ofE_in {b : Nat} (h : isIn b) : ofE b = 0 := by
  have := h.isF
  unfold isF at this
  unfold ofE
  rw [if_neg (by omega), if_neg (by omega), if_pos h]
end Go.Proofs.Ytekdablolacgfaa.W

/- The walks of layer 3: the reference's Of; Within; Same; the small case. -/
namespace Go.Proofs.Ytekdablolacgfaa.W
open Go.RowKit
set_option linter.unusedVariables false
set_option linter.unusedSimpArgs false
/-- Within's error, and its answer. -/
def wiE (f l h : Nat) : Int := if ofE f ≠ 0 then ofE f else if ofE l ≠ 0 then ofE l else if ofE h ≠ 0 then ofE h else if V f < V l ∨ V h < V f then 32 else 0
end Go.Proofs.Ytekdablolacgfaa.W

