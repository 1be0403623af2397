import Derived.Laws.FloatArith
/- Floating-point numbers of 64 bits as whole numbers of 2^-1074: rungs, rounding, reading. Nothing of the program is imported. -/
namespace Go.Proofs.Ytekdablolacgfaa.W
set_option linter.unusedVariables false
set_option linter.unusedSimpArgs false
/-- The size of the number that a rung stands for, in units of 2^-1074. -/
def val (r : Nat) : Nat := if r < 4503599627370496 then r else (4503599627370496 + r % 4503599627370496) * 2 ^ (r / 4503599627370496 - 1)
theorem val_at (k c : Nat) (h : k = 0 ∨ 4503599627370496 ≤ c) (h2 : c ≤ 9007199254740992) : val (k * 4503599627370496 + c) = c * 2 ^ k := by
  unfold val
  by_cases h1 : c < 4503599627370496
  · have : k = 0 := by omega
    subst this
    rw [if_pos (by omega)]; simp
  · rw [if_neg (by omega)]
    by_cases h3 : c < 9007199254740992
    · rw [show (k * 4503599627370496 + c) % 4503599627370496 = c - 4503599627370496 by omega, show (k * 4503599627370496 + c) / 4503599627370496 - 1 = k by omega, show 4503599627370496 + (c - 4503599627370496) = c by omega]
    · have : c = 9007199254740992 := by omega
      subst this
      rw [show (k * 4503599627370496 + 9007199254740992) % 4503599627370496 = 0 by omega, show (k * 4503599627370496 + 9007199254740992) / 4503599627370496 - 1 = k + 1 by omega, Nat.pow_succ]
      generalize 2 ^ k = t
      omega
theorem parts (r : Nat) : ∃ k c, r = k * 4503599627370496 + c ∧ (k = 0 ∨ 4503599627370496 ≤ c) ∧ c < 9007199254740992 ∧ k = r / 4503599627370496 - 1 := by
  by_cases h : r < 4503599627370496
  · exact ⟨0, r, by omega, .inl rfl, by omega, by omega⟩
  · exact ⟨r / 4503599627370496 - 1, 4503599627370496 + r % 4503599627370496, by omega, by omega, by omega, rfl⟩
theorem val_succ (r : Nat) : val r < val (r + 1) := by
  obtain ⟨k, c, rfl, h, h2, _⟩ := parts r
  rw [val_at k c h (by omega), Nat.add_assoc, val_at k (c + 1) (by omega) (by omega)]
  exact Nat.mul_lt_mul_of_pos_right (by omega) (Nat.two_pow_pos k)
theorem val_lt {r s : Nat} (h : r < s) : val r < val s := by
  induction s with
  | zero => omega
  | succ s ih =>
    by_cases e : r = s
    · subst e; exact val_succ r
    · exact Nat.lt_trans (ih (by omega)) (val_succ s)
theorem val_le {r s : Nat} (h : r ≤ s) : val r ≤ val s := by
  rcases Nat.lt_or_eq_of_le h with h | rfl
  · exact Nat.le_of_lt (val_lt h)
  · exact Nat.le_refl _
theorem val_inj {r s : Nat} (h : val r = val s) : r = s := by
  rcases Nat.lt_trichotomy r s with g | g | g
  · have := val_lt g; omega
  · exact g
  · have := val_lt g; omega
theorem lt_of_val {r s : Nat} (h : val r < val s) : r < s := by
  rcases Nat.lt_or_ge r s with g | g
  · exact g
  · have := val_le g; omega
theorem val_zero : val 0 = 0 := by decide
theorem signWeight_eq : Ieee.double.signWeight = 9223372036854775808 := by decide
/-- A word's sign and rung. -/
def neg (b : Nat) : Bool := b / 9223372036854775808 % 2 == 1
def rung (b : Nat) : Nat := b % 9223372036854775808
theorem word_eq (s : Bool) (r : Nat) : Ieee.double.word s r = if s then 9223372036854775808 + r else r := by
  unfold Ieee.Format.word; rw [signWeight_eq]
theorem neg_word (s : Bool) (r : Nat) (h : r < 9223372036854775808) : neg (Ieee.double.word s r) = s := by
  rw [word_eq]; unfold neg
  cases s
  · rw [if_neg (by decide)]; rw [beq_eq_false_iff_ne]; omega
  · rw [if_pos rfl]; rw [beq_iff_eq]; omega
theorem rung_word (s : Bool) (r : Nat) (h : r < 9223372036854775808) : rung (Ieee.double.word s r) = r := by
  rw [word_eq]; unfold rung
  cases s
  · rw [if_neg (by decide)]; omega
  · rw [if_pos rfl]; omega
/-- The number that a word stands for, in units of 2^-1074 (of an infinite one what is above all finite ones). -/
def V (b : Nat) : Int := if neg b then -(val (rung b) : Int) else val (rung b)
theorem V_word (s : Bool) (r : Nat) (h : r < 9223372036854775808) : V (Ieee.double.word s r) = if s then -(val r : Int) else val r := by
  unfold V; rw [neg_word s r h, rung_word s r h]
end Go.Proofs.Ytekdablolacgfaa.W

/- Floating-point numbers of 64 bits as whole numbers of 2^-1074: their order, products and quotients by 2^32, whole numbers. Nothing of the program is imported. -/
namespace Go.Proofs.Ytekdablolacgfaa.W
set_option linter.unusedVariables false
set_option linter.unusedSimpArgs false
def pw (n : Nat) : Nat := 2 ^ n
theorem pw_pos (n : Nat) : 0 < pw n := Nat.two_pow_pos n
theorem pw_add (a b : Nat) : pw (a + b) = pw a * pw b := Nat.pow_add 2 a b
theorem pw_le {a b : Nat} (h : a ≤ b) : pw a ≤ pw b := Nat.pow_le_pow_right (by decide) h
theorem pw64 : pw 64 = 18446744073709551616 := rfl
/-- One second, in units of 2^-1074. -/
def U : Int := pw 1074
theorem U_pos : 0 < U := by have := pw_pos 1074; unfold U; omega
def isN (b : Nat) : Prop := rung b ≤ 9218868437227405312
def isF (b : Nat) : Prop := rung b < 9218868437227405312
theorem isF.isN {b : Nat} (h : isF b) : isN b := Nat.le_of_lt h
instance (b : Nat) : Decidable (isN b) := inferInstanceAs (Decidable (_ ≤ _))
instance (b : Nat) : Decidable (isF b) := inferInstanceAs (Decidable (_ < _))
theorem val_inf : val 9218868437227405312 = pw 2098 := by
  obtain ⟨k, hk⟩ : ∃ k, 2046 = k := ⟨_, rfl⟩
  rw [show 2098 = 52 + k by omega, show 9218868437227405312 = k * 4503599627370496 + 4503599627370496 by omega, val_at _ _ (.inr (by decide)) (by decide), pw_add]
  rfl
theorem abs_V (x : Nat) : (V x).natAbs = val (rung x) := by unfold V; split <;> simp
theorem lt_inf_of {r : Nat} (h : val r < pw 2098) : r < 9218868437227405312 := lt_of_val (by rw [val_inf]; exact h)
end Go.Proofs.Ytekdablolacgfaa.W

/- Floating-point numbers of 64 bits as whole numbers of 2^-1074: from and to whole numbers, rounded down. Nothing of the program is imported. -/
namespace Go.Proofs.Ytekdablolacgfaa.W
set_option linter.unusedVariables false
set_option linter.unusedSimpArgs false
theorem big1024 : 9223372036854775808 < pw 1024 := by
  have h := pw_le (a := 64) (b := 1024) (by decide)
  rw [pw64] at h
  omega
end Go.Proofs.Ytekdablolacgfaa.W

