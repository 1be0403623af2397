/- Floating-point numbers of 64 bits as whole numbers of 2^-1074: from and to whole numbers, rounded down. Nothing of the program is imported. -/
import Derived.Test.YtfanijdemephoaaFpB
namespace Go.Proofs.Ytfanijdemephoaa.W
set_option linter.unusedVariables false
set_option linter.unusedSimpArgs false
theorem big1024 : 9223372036854775808 < pw 1024 := by
  have h := pw_le (a := 64) (b := 1024) (by decide)
  rw [pw64] at h
  omega
/-- float64(n) is next to n. -/
theorem of_int (n : Int) (h : n.natAbs ≤ 9223372036854775808) :
    isF (floatOfInt .f64 n) ∧ floatOfInt .f64 n < 18446744073709551616 ∧ (∀ z, isN z → V z ≤ n * U → V z ≤ V (floatOfInt .f64 n)) ∧ (∀ z, isN z → n * U ≤ V z → V (floatOfInt .f64 n) ≤ V z) ∧
      (V (floatOfInt .f64 n) = 0 ∨ pw 1074 ≤ (V (floatOfInt .f64 n)).natAbs) := by
  have hx : floatOfInt .f64 n = Ieee.double.nearest (decide (n < 0)) n.natAbs 0 := rfl
  rw [hx]
  clear hx
  have hU : U = (pw 1074 : Int) := rfl
  by_cases h0 : n = 0
  · subst h0
    have e : Ieee.double.nearest (decide ((0 : Int) < 0)) (0 : Int).natAbs 0 = 0 := by decide
    rw [e]
    have hv : V 0 = 0 := by decide
    rw [hv]
    refine ⟨by decide, by decide, fun z _ hz => by omega, fun z _ hz => by omega, .inl rfl⟩
  · obtain ⟨R, hR, hs⟩ := nearest_pw (decide (n < 0)) n.natAbs 0 (by omega)
    obtain ⟨h1, h2⟩ := hs 0 1074 (by omega)
    clear hs
    simp only [pw_zero, Nat.mul_one] at h1 h2
    have hRf : R < 9218868437227405312 := by
      obtain ⟨ρ, hρ⟩ := rep_pw 1 (63 + 1074) (by decide)
      rw [Nat.one_mul, pw_add] at hρ
      have hρ2 : val ρ = 9223372036854775808 * pw 1074 := by rw [hρ, show pw 63 = 9223372036854775808 from rfl]
      have := h2 ρ (by rw [hρ2]; exact Nat.mul_le_mul_right _ h)
      have : ρ < 9218868437227405312 := lt_inf_of (by
        rw [hρ2, show 2098 = 1024 + 1074 by decide, pw_add]
        exact Nat.mul_lt_mul_of_pos_right big1024 (pw_pos _))
      omega
    rw [hR, Nat.min_eq_left (by omega)]
    have hone : pw 1074 ≤ val R := by
      obtain ⟨ρ, hρ2⟩ := rep_pw 1 1074 (by decide)
      rw [Nat.one_mul] at hρ2
      have : ρ ≤ R := h1 ρ (by rw [hρ2]; exact Nat.le_mul_of_pos_left _ (by omega))
      rw [← hρ2]; exact val_le this
    have hV := V_word (decide (n < 0)) R (by omega)
    have hp := pw_pos 1074
    have habs : ((n.natAbs * pw 1074 : Nat) : Int) = (n.natAbs : Int) * U := by rw [Int.natCast_mul]; rfl
    refine ⟨by unfold isF; rw [rung_word _ _ (by omega)]; exact hRf, word_lt64 _ _ (by omega), ?_, ?_, ?_⟩
    · intro z hz hle
      rw [hV]
      have hzv := abs_V z
      by_cases hn : n < 0
      · rw [decide_eq_true hn, if_pos rfl]
        have e : n * U = -((n.natAbs * pw 1074 : Nat) : Int) := by rw [habs, ← Int.neg_mul]; congr 1; omega
        have : R ≤ rung z := h2 (rung z) (by omega)
        have := val_le this
        have h3 : n * U < 0 := by rw [Int.mul_comm]; exact Int.mul_neg_of_pos_of_neg U_pos hn
        omega
      · rw [decide_eq_false hn, if_neg (by decide)]
        have e : n * U = ((n.natAbs * pw 1074 : Nat) : Int) := by rw [habs]; congr 1; omega
        by_cases hz0 : V z < 0
        · omega
        · have : rung z ≤ R := h1 (rung z) (by omega)
          have := val_le this
          omega
    · intro z hz hle
      rw [hV]
      have hzv := abs_V z
      by_cases hn : n < 0
      · rw [decide_eq_true hn, if_pos rfl]
        have e : n * U = -((n.natAbs * pw 1074 : Nat) : Int) := by rw [habs, ← Int.neg_mul]; congr 1; omega
        by_cases hz0 : 0 ≤ V z
        · omega
        · have : rung z ≤ R := h1 (rung z) (by omega)
          have := val_le this
          omega
      · rw [decide_eq_false hn, if_neg (by decide)]
        have e : n * U = ((n.natAbs * pw 1074 : Nat) : Int) := by rw [habs]; congr 1; omega
        have h3 : 0 ≤ n * U := Int.mul_nonneg (by omega) (Int.le_of_lt U_pos)
        have : R ≤ rung z := h2 (rung z) (by omega)
        have := val_le this
        omega
    · refine .inr ?_
      rw [hV]; split <;> omega
/-- A whole number of at most 53 bits, and noughts behind them, is its floating-point number. -/
theorem of_int_exact (c : Int) (k : Nat) (hc : c.natAbs < 9007199254740992) (h : (c * 2 ^ k).natAbs ≤ 9223372036854775808) : V (floatOfInt .f64 (c * 2 ^ k)) = c * 2 ^ k * U := by
  obtain ⟨_, _, h1, h2, _⟩ := of_int (c * 2 ^ k) h
  obtain ⟨ρ, hρ⟩ := rep_pw c.natAbs (k + 1074) hc
  rw [pw_add, show pw k = 2 ^ k from rfl, ← Nat.mul_assoc] at hρ
  have hk : (2 : Int) ^ k = ((2 ^ k : Nat) : Int) := by rw [Int.natCast_pow]; rfl
  have ha : (c * 2 ^ k).natAbs = c.natAbs * 2 ^ k := by rw [hk, Int.natAbs_mul]; rfl
  rw [ha] at h
  have hf : ρ < 9218868437227405312 := lt_inf_of (by
    rw [hρ, show 2098 = 1024 + 1074 by decide, pw_add]
    exact Nat.mul_lt_mul_of_pos_right (Nat.lt_of_le_of_lt h big1024) (pw_pos _))
  have hz : V (Ieee.double.word (decide (c < 0)) ρ) = c * 2 ^ k * U := by
    rw [V_word _ _ (by omega), hρ, hk]
    show (if _ then -((c.natAbs * 2 ^ k * pw 1074 : Nat) : Int) else ((c.natAbs * 2 ^ k * pw 1074 : Nat) : Int)) = c * ((2 ^ k : Nat) : Int) * ((pw 1074 : Nat) : Int)
    rw [Int.natCast_mul, Int.natCast_mul]
    by_cases hc0 : c < 0
    · rw [decide_eq_true hc0, if_pos rfl, ← Int.neg_mul, ← Int.neg_mul]; congr 2; omega
    · rw [decide_eq_false hc0, if_neg (by decide)]; congr 2; omega
  have hn : isN (Ieee.double.word (decide (c < 0)) ρ) := by unfold isN; rw [rung_word _ _ (by omega)]; omega
  have g1 := h1 _ hn (by rw [hz]; exact Int.le_refl _)
  have g2 := h2 _ hn (by rw [hz]; exact Int.le_refl _)
  rw [hz] at g1 g2
  omega
theorem signed_zero (s : Bool) (m : Nat) : Ieee.signed s m 0 = if s then -(m : Int) else m := rfl
theorem pow_cast (d : Nat) : ((2 ^ d : Nat) : Int) = (2 : Int) ^ d := by rw [Int.natCast_pow]; rfl
theorem cut_down (s : Bool) (n d : Nat) : Ieee.signed s (Ieee.Toward.down.cut s n d) 0 = Ieee.signed s n 0 / 2 ^ d := by
  rw [← pow_cast, signed_zero, signed_zero]
  unfold Ieee.Toward.cut
  simp only
  have hcap : ∃ g, g = 1 <<< min d (n.log2 + 2) ∧ 0 < g ∧ ((g = 2 ^ d) ∨ (n < g ∧ n < 2 ^ d)) := by
    refine ⟨_, rfl, ?_, ?_⟩
    · rw [Nat.shiftLeft_eq, Nat.one_mul]; exact Nat.two_pow_pos _
    · rw [Nat.shiftLeft_eq, Nat.one_mul]
      by_cases h : d ≤ n.log2 + 2
      · left; rw [Nat.min_eq_left h]
      · right
        have h1 : n < 2 ^ (n.log2 + 1) := Nat.lt_log2_self
        rw [Nat.min_eq_right (by omega)]
        exact ⟨Nat.lt_of_lt_of_le h1 (Nat.pow_le_pow_right (by decide) (by omega)), Nat.lt_of_lt_of_le h1 (Nat.pow_le_pow_right (by decide) (by omega))⟩
  obtain ⟨g, hg, hg0, hcase⟩ := hcap
  rw [← hg]
  clear hg
  have hd := Nat.two_pow_pos d
  generalize 2 ^ d = t at *
  have e1 := Nat.div_add_mod n g
  have e2 := Nat.mod_lt n hg0
  cases s
  · simp only [Bool.false_and, Bool.toNat_false, Nat.add_zero, Bool.false_eq_true, if_false]
    rcases hcase with rfl | ⟨a, b⟩
    · exact Int.natCast_ediv n g
    · rw [Nat.div_eq_of_lt a, Int.ediv_eq_zero_of_lt (by omega) (by omega)]; rfl
  · simp only [Bool.true_and, if_true]
    rcases hcase with rfl | ⟨a, b⟩
    · by_cases hr : n % g = 0
      · rw [hr]
        simp only [bne_self_eq_false, Bool.toNat_false, Nat.add_zero]
        have : (n : Int) = (n / g : Nat) * g := by rw [hr, Nat.add_zero] at e1; rw [← Int.natCast_mul, Nat.mul_comm, e1]
        rw [show (-(n : Int)) = (-((n / g : Nat) : Int)) * g by rw [Int.neg_mul, ← this], Int.mul_ediv_cancel _ (by omega)]
      · rw [show (n % g != 0) = true by simpa using hr]
        simp only [Bool.toNat_true]
        have : (n : Int) = g * (n / g : Nat) + (n % g : Nat) := by rw [← Int.natCast_mul, ← Int.natCast_add, e1]
        rw [eq_comm, Int.ediv_eq_iff_of_pos (by omega)]
        generalize n / g = q at *
        generalize n % g = r at *
        have h1 : (-((q + 1 : Nat) : Int)) * g = -((g : Int) * q) - g := by rw [Int.natCast_add, Int.neg_mul, Int.add_mul, Int.mul_comm]; omega
        rw [h1]
        have h2 : (-((q + 1 : Nat) : Int) + 1) * g = -((g : Int) * q) := by rw [show (-((q + 1 : Nat) : Int) + 1) = -(q : Int) by omega, Int.neg_mul, Int.mul_comm]
        first | (rw [h2]; omega) | omega
    · rw [Nat.div_eq_of_lt a, Nat.mod_eq_of_lt a]
      by_cases hr : n = 0
      · subst hr; simp
      · rw [show (n != 0) = true by simpa using hr]
        have h1 : (-(n : Int)) / (t : Int) = -1 := by
          rw [Int.ediv_eq_iff_of_pos (by omega)]; omega
        rw [h1]; rfl
theorem cut_zero (s : Bool) (n d : Nat) : Ieee.Toward.zero.cut s n d = n / 2 ^ d := by
  unfold Ieee.Toward.cut
  simp only [Bool.toNat_false, Nat.add_zero]
  rw [Nat.shiftLeft_eq, Nat.one_mul]
  by_cases h : d ≤ n.log2 + 2
  · rw [Nat.min_eq_left h]
  · have h1 : n < 2 ^ (n.log2 + 1) := Nat.lt_log2_self
    rw [Nat.min_eq_right (by omega), Nat.div_eq_of_lt (Nat.lt_of_lt_of_le h1 (Nat.pow_le_pow_right (by decide) (by omega))), Nat.div_eq_of_lt (Nat.lt_of_lt_of_le h1 (Nat.pow_le_pow_right (by decide) (by omega)))]
end Go.Proofs.Ytfanijdemephoaa.W
