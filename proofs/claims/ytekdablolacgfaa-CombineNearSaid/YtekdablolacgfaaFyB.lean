/- The walks of layer 3: what comes of a floating-point number. -/
import Derived.Test.YtekdablolacgfaaRows
import Derived.Test.YtekdablolacgfaaChecked
import Derived.Test.YtekdablolacgfaaFpD
import Derived.WalkKit
import Derived.WalkSpells
import Derived.WalkLawsBesides
import Derived.Laws.Externs
import Derived.Lib.Zigzag
import Derived.BigQuiet
import Derived.Deep.QuietTactic
import Derived.Below
namespace Go.Proofs.Ytekdablolacgfaa.W
open Go.RowKit
set_option linter.unusedVariables false
set_option linter.unusedSimpArgs false
/-- Numbers that have room as 2^-32 seconds. -/
def isIn (b : Nat) : Prop := (V b).natAbs < 2147483648 * pw 1074
instance (b : Nat) : Decidable (isIn b) := inferInstanceAs (Decidable (_ < _))
def ofV (b : Nat) : Int := if isIn b then V b * 4294967296 / U else 0
def ofE (b : Nat) : Int := if 9218868437227405312 < rung b then 30 else if rung b = 9218868437227405312 then 31 else if isIn b then 0 else 32
theorem isIn.isF {b : Nat} (h : isIn b) : isF b := by
  unfold isIn at h
  rw [abs_V] at h
  refine lt_inf_of (Nat.lt_of_lt_of_le h ?_)
  rw [show 2098 = 1024 + 1074 by decide, pw_add]
  have := big1024
  exact Nat.mul_le_mul_right _ (by omega)
theorem V_top : V 4746794007248502784 = 2147483648 * U := by
  have h : Ieee.double.word false 4746794007248502784 = 4746794007248502784 := by rw [word_eq]; rfl
  have hv : val 4746794007248502784 = 2147483648 * pw 1074 := by
    obtain ⟨k, hk⟩ : ∃ k, 1053 = k := ⟨_, rfl⟩
    rw [show 4746794007248502784 = k * 4503599627370496 + 4503599627370496 by omega, val_at _ _ (.inr (by decide)) (by decide), show 1074 = 21 + k by omega, pw_add, ← Nat.mul_assoc]
    rfl
  rw [← h, V_word _ _ (by decide), hv, if_neg (by decide), Int.natCast_mul]
  rfl
theorem isIn_iff (b : Nat) : isIn b ↔ -2147483648 * U < V b ∧ V b < 2147483648 * U := by
  unfold isIn
  have : U = (pw 1074 : Int) := rfl
  rw [this]
  omega
theorem ofV_bounds (b : Nat) : -9223372036854775808 ≤ ofV b ∧ ofV b ≤ 9223372036854775807 := by
  unfold ofV
  split
  · rename_i h
    obtain ⟨h1, h2⟩ := (isIn_iff b).1 h
    have a := (Int.le_ediv_iff_mul_le (a := -9223372036854775808) (b := V b * 4294967296) U_pos).2 (by omega)
    have c := Int.ediv_lt_of_lt_mul (a := V b * 4294967296) (b := 9223372036854775808) U_pos (by omega)
    omega
  · omega
end Go.Proofs.Ytekdablolacgfaa.W
