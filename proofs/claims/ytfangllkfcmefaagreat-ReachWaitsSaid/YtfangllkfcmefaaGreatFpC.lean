/- Floating-point numbers of 64 bits as whole numbers of 2^-1074: from and to whole numbers, rounded down. Nothing of the program is imported. -/
import Derived.Test.YtfangllkfcmefaaGreatFpB
namespace Go.Proofs.YtfangllkfcmefaaGreat.W
set_option linter.unusedVariables false
set_option linter.unusedSimpArgs false
theorem big1024 : 9223372036854775808 < pw 1024 := by
  have h := pw_le (a := 64) (b := 1024) (by decide)
  rw [pw64] at h
  omega
theorem signed_zero (s : Bool) (m : Nat) : Ieee.signed s m 0 = if s then -(m : Int) else m := rfl
theorem pow_castF (d : Nat) : ((2 ^ d : Nat) : Int) = (2 : Int) ^ d := by rw [Int.natCast_pow]; rfl
theorem cut_down (s : Bool) (n d : Nat) : Ieee.signed s (Ieee.Toward.down.cut s n d) 0 = Ieee.signed s n 0 / 2 ^ d := by
  rw [← pow_castF, signed_zero, signed_zero]
  unfold Ieee.Toward.cut
  simp only
  have hcap : ∃ g, g = 1 <<< min d (n.log2 + 2) ∧ 0 < g ∧ ((g = 2 ^ d) ∨ (n < g ∧ n < 2 ^ d)) := by
    refine ⟨_, rfl, ?_, ?_⟩
    · rw [Nat.shiftLeft_eq, Nat.one_mul]; exact Nat.two_pow_pos _
    · rw [Nat.shiftLeft_eq, Nat.one_mul]
      by_cases h : d ≤ n.log2 + 2
      · left; rw [Nat.min_eq_left h]
      · right
        have h1 : n < 2 ^ (n.log2 + 1) := Nat.lt_log2_self
        rw [Nat.min_eq_right (by omega)]
        exact ⟨Nat.lt_of_lt_of_le h1 (Nat.pow_le_pow_right (by decide) (by omega)), Nat.lt_of_lt_of_le h1 (Nat.pow_le_pow_right (by decide) (by omega))⟩
  obtain ⟨g, hg, hg0, hcase⟩ := hcap
  rw [← hg]
  clear hg
  have hd := Nat.two_pow_pos d
  generalize 2 ^ d = t at *
  have e1 := Nat.div_add_mod n g
  have e2 := Nat.mod_lt n hg0
  cases s
  · simp only [Bool.false_and, Bool.toNat_false, Nat.add_zero, Bool.false_eq_true, if_false]
    rcases hcase with rfl | ⟨a, b⟩
    · exact Int.natCast_ediv n g
    · rw [Nat.div_eq_of_lt a, Int.ediv_eq_zero_of_lt (by omega) (by omega)]; rfl
  · simp only [Bool.true_and, if_true]
    rcases hcase with rfl | ⟨a, b⟩
    · by_cases hr : n % g = 0
      · rw [hr]
        simp only [bne_self_eq_false, Bool.toNat_false, Nat.add_zero]
        have : (n : Int) = (n / g : Nat) * g := by rw [hr, Nat.add_zero] at e1; rw [← Int.natCast_mul, Nat.mul_comm, e1]
        rw [show (-(n : Int)) = (-((n / g : Nat) : Int)) * g by rw [Int.neg_mul, ← this], Int.mul_ediv_cancel _ (by omega)]
      · rw [show (n % g != 0) = true by simpa using hr]
        simp only [Bool.toNat_true]
        have : (n : Int) = g * (n / g : Nat) + (n % g : Nat) := by rw [← Int.natCast_mul, ← Int.natCast_add, e1]
        rw [eq_comm, Int.ediv_eq_iff_of_pos (by omega)]
        generalize n / g = q at *
        generalize n % g = r at *
        have h1 : (-((q + 1 : Nat) : Int)) * g = -((g : Int) * q) - g := by rw [Int.natCast_add, Int.neg_mul, Int.add_mul, Int.mul_comm]; omega
        rw [h1]
        have h2 : (-((q + 1 : Nat) : Int) + 1) * g = -((g : Int) * q) := by rw [show (-((q + 1 : Nat) : Int) + 1) = -(q : Int) by omega, Int.neg_mul, Int.mul_comm]
        first | (rw [h2]; omega) | omega
    · rw [Nat.div_eq_of_lt a, Nat.mod_eq_of_lt a]
      by_cases hr : n = 0
      · subst hr; simp
      · rw [show (n != 0) = true by simpa using hr]
        have h1 : (-(n : Int)) / (t : Int) = -1 := by
          rw [Int.ediv_eq_iff_of_pos (by omega)]; omega
        rw [h1]; rfl
theorem cut_zero (s : Bool) (n d : Nat) : Ieee.Toward.zero.cut s n d = n / 2 ^ d := by
  unfold Ieee.Toward.cut
  simp only [Bool.toNat_false, Nat.add_zero]
  rw [Nat.shiftLeft_eq, Nat.one_mul]
  by_cases h : d ≤ n.log2 + 2
  · rw [Nat.min_eq_left h]
  · have h1 : n < 2 ^ (n.log2 + 1) := Nat.lt_log2_self
    rw [Nat.min_eq_right (by omega), Nat.div_eq_of_lt (Nat.lt_of_lt_of_le h1 (Nat.pow_le_pow_right (by decide) (by omega))), Nat.div_eq_of_lt (Nat.lt_of_lt_of_le h1 (Nat.pow_le_pow_right (by decide) (by omega)))]
end Go.Proofs.YtfangllkfcmefaaGreat.W
