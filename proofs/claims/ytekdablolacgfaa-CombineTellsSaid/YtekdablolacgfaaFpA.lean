/- Floating-point numbers of 64 bits as whole numbers of 2^-1074: rungs, rounding, reading. Nothing of the program is imported. -/
import Derived.Laws.FloatArith
namespace Go.Proofs.Ytekdablolacgfaa.W
set_option linter.unusedVariables false
set_option linter.unusedSimpArgs false
/-- The size of the number that a rung stands for, in units of 2^-1074. -/
def val (r : Nat) : Nat := if r < 4503599627370496 then r else (4503599627370496 + r % 4503599627370496) * 2 ^ (r / 4503599627370496 - 1)
theorem val_at (k c : Nat) (h : k = 0 ∨ 4503599627370496 ≤ c) (h2 : c ≤ 9007199254740992) : val (k * 4503599627370496 + c) = c * 2 ^ k := by
  unfold val
  by_cases h1 : c < 4503599627370496
  · have : k = 0 := by omega
    subst this
    rw [if_pos (by omega)]; simp
  · rw [if_neg (by omega)]
    by_cases h3 : c < 9007199254740992
    · rw [show (k * 4503599627370496 + c) % 4503599627370496 = c - 4503599627370496 by omega, show (k * 4503599627370496 + c) / 4503599627370496 - 1 = k by omega, show 4503599627370496 + (c - 4503599627370496) = c by omega]
    · have : c = 9007199254740992 := by omega
      subst this
      rw [show (k * 4503599627370496 + 9007199254740992) % 4503599627370496 = 0 by omega, show (k * 4503599627370496 + 9007199254740992) / 4503599627370496 - 1 = k + 1 by omega, Nat.pow_succ]
      generalize 2 ^ k = t
      omega
theorem parts (r : Nat) : ∃ k c, r = k * 4503599627370496 + c ∧ (k = 0 ∨ 4503599627370496 ≤ c) ∧ c < 9007199254740992 ∧ k = r / 4503599627370496 - 1 := by
  by_cases h : r < 4503599627370496
  · exact ⟨0, r, by omega, .inl rfl, by omega, by omega⟩
  · exact ⟨r / 4503599627370496 - 1, 4503599627370496 + r % 4503599627370496, by omega, by omega, by omega, rfl⟩
theorem val_succ (r : Nat) : val r < val (r + 1) := by
  obtain ⟨k, c, rfl, h, h2, _⟩ := parts r
  rw [val_at k c h (by omega), Nat.add_assoc, val_at k (c + 1) (by omega) (by omega)]
  exact Nat.mul_lt_mul_of_pos_right (by omega) (Nat.two_pow_pos k)
theorem val_lt {r s : Nat} (h : r < s) : val r < val s := by
  induction s with
  | zero => omega
  | succ s ih =>
    by_cases e : r = s
    · subst e; exact val_succ r
    · exact Nat.lt_trans (ih (by omega)) (val_succ s)
theorem val_inj {r s : Nat} (h : val r = val s) : r = s := by
  rcases Nat.lt_trichotomy r s with g | g | g
  · have := val_lt g; omega
  · exact g
  · have := val_lt g; omega
end Go.Proofs.Ytekdablolacgfaa.W
