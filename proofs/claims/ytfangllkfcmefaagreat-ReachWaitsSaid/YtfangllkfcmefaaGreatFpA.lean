/- Floating-point numbers of 64 bits as whole numbers of 2^-1074: rungs, rounding, reading. Nothing of the program is imported. -/
import Derived.Laws.FloatArith
namespace Go.Proofs.YtfangllkfcmefaaGreat.W
set_option linter.unusedVariables false
set_option linter.unusedSimpArgs false
/-- The size of the number that a rung stands for, in units of 2^-1074. -/
def val (r : Nat) : Nat := if r < 4503599627370496 then r else (4503599627370496 + r % 4503599627370496) * 2 ^ (r / 4503599627370496 - 1)
theorem val_at (k c : Nat) (h : k = 0 ∨ 4503599627370496 ≤ c) (h2 : c ≤ 9007199254740992) : val (k * 4503599627370496 + c) = c * 2 ^ k := by
  unfold val
  by_cases h1 : c < 4503599627370496
  · have : k = 0 := by omega
    subst this
    rw [if_pos (by omega)]; simp
  · rw [if_neg (by omega)]
    by_cases h3 : c < 9007199254740992
    · rw [show (k * 4503599627370496 + c) % 4503599627370496 = c - 4503599627370496 by omega, show (k * 4503599627370496 + c) / 4503599627370496 - 1 = k by omega, show 4503599627370496 + (c - 4503599627370496) = c by omega]
    · have : c = 9007199254740992 := by omega
      subst this
      rw [show (k * 4503599627370496 + 9007199254740992) % 4503599627370496 = 0 by omega, show (k * 4503599627370496 + 9007199254740992) / 4503599627370496 - 1 = k + 1 by omega, Nat.pow_succ]
      generalize 2 ^ k = t
      omega
theorem parts (r : Nat) : ∃ k c, r = k * 4503599627370496 + c ∧ (k = 0 ∨ 4503599627370496 ≤ c) ∧ c < 9007199254740992 ∧ k = r / 4503599627370496 - 1 := by
  by_cases h : r < 4503599627370496
  · exact ⟨0, r, by omega, .inl rfl, by omega, by omega⟩
  · exact ⟨r / 4503599627370496 - 1, 4503599627370496 + r % 4503599627370496, by omega, by omega, by omega, rfl⟩
theorem val_succ (r : Nat) : val r < val (r + 1) := by
  obtain ⟨k, c, rfl, h, h2, _⟩ := parts r
  rw [val_at k c h (by omega), Nat.add_assoc, val_at k (c + 1) (by omega) (by omega)]
  exact Nat.mul_lt_mul_of_pos_right (by omega) (Nat.two_pow_pos k)
theorem val_lt {r s : Nat} (h : r < s) : val r < val s := by
  induction s with
  | zero => omega
  | succ s ih =>
    by_cases e : r = s
    · subst e; exact val_succ r
    · exact Nat.lt_trans (ih (by omega)) (val_succ s)
theorem val_le {r s : Nat} (h : r ≤ s) : val r ≤ val s := by
  rcases Nat.lt_or_eq_of_le h with h | rfl
  · exact Nat.le_of_lt (val_lt h)
  · exact Nat.le_refl _
theorem val_inj {r s : Nat} (h : val r = val s) : r = s := by
  rcases Nat.lt_trichotomy r s with g | g | g
  · have := val_lt g; omega
  · exact g
  · have := val_lt g; omega
theorem lt_of_val {r s : Nat} (h : val r < val s) : r < s := by
  rcases Nat.lt_or_ge r s with g | g
  · exact g
  · have := val_le g; omega
theorem val_zero : val 0 = 0 := by decide
/-- Of at most 53 bits, at any place: a rung. -/
theorem rep (c k : Nat) (h : c < 9007199254740992) : ∃ r, val r = c * 2 ^ k := by
  induction k generalizing c with
  | zero => exact ⟨0 * 4503599627370496 + c, by rw [val_at 0 c (.inl rfl) (by omega)]⟩
  | succ k ih =>
    by_cases h1 : 4503599627370496 ≤ c
    · exact ⟨_, val_at (k + 1) c (.inr h1) (by omega)⟩
    · obtain ⟨r, hr⟩ := ih (2 * c) (by omega)
      exact ⟨r, by rw [hr, Nat.pow_succ]; generalize 2 ^ k = t; rw [Nat.mul_comm 2 c, Nat.mul_assoc, Nat.mul_comm 2 t]⟩
theorem cut_even (neg : Bool) (n d : Nat) : ∃ up : Nat, Ieee.Toward.even.cut neg n d = n / 2 ^ d + up ∧ up ≤ 1 ∧ (n % 2 ^ d = 0 → up = 0) := by
  unfold Ieee.Toward.cut
  simp only
  by_cases h : d ≤ n.log2 + 2
  · rw [Nat.min_eq_left h, Nat.shiftLeft_eq, Nat.one_mul]
    refine ⟨_, rfl, ?_, ?_⟩
    · cases (decide (2 ^ d < 2 * (n % 2 ^ d)) || 2 ^ d == 2 * (n % 2 ^ d) && n / 2 ^ d % 2 == 1) <;> simp
    · intro h0
      have := Nat.two_pow_pos d
      rw [h0]
      simp
  · rw [Nat.min_eq_right (by omega), Nat.shiftLeft_eq, Nat.one_mul]
    have h1 : n < 2 ^ (n.log2 + 1) := Nat.lt_log2_self
    have h2 : 2 ^ (n.log2 + 2) = 2 * 2 ^ (n.log2 + 1) := by rw [Nat.pow_succ 2 (n.log2 + 1), Nat.mul_comm]
    have h3 : n < 2 ^ (n.log2 + 2) := by omega
    have h4 : n < 2 ^ d := Nat.lt_of_lt_of_le h3 (Nat.pow_le_pow_right (by decide) (by omega))
    refine ⟨0, ?_, by omega, fun _ => rfl⟩
    rw [Nat.div_eq_of_lt h3, Nat.div_eq_of_lt h4, Nat.mod_eq_of_lt h3]
    have h5 : ¬ 2 ^ (n.log2 + 2) < 2 * n := by omega
    have h6 : (2 ^ (n.log2 + 2) == 2 * n) = false := by rw [beq_eq_false_iff_ne]; omega
    simp [h5, h6]
theorem least_place : Ieee.double.leastPlace = -1074 := by decide
theorem binade_eq : Ieee.double.binade = 4503599627370496 := by decide
theorem infRung_eq : Ieee.double.infRung = 9218868437227405312 := by decide
theorem signWeight_eq : Ieee.double.signWeight = 9223372036854775808 := by decide
/-- To round is to find a rung: none that is not above is above it, none that is not below is below it. -/
theorem nearest_spec (neg : Bool) (mag : Nat) (place : Int) (hm : mag ≠ 0) :
    ∃ R, Ieee.double.nearest neg mag place = Ieee.double.word neg (min R 9218868437227405312) ∧
      ∀ a b : Nat, (b : Int) - a = place + 1074 → (∀ r, val r * 2 ^ a ≤ mag * 2 ^ b → r ≤ R) ∧ (∀ r, mag * 2 ^ b ≤ val r * 2 ^ a → R ≤ r) := by
  unfold Ieee.Format.nearest
  rw [if_neg hm]
  simp only [least_place, binade_eq, infRung_eq]
  rw [show ((Ieee.double.fractionBits : Nat) : Int) = 52 from rfl]
  obtain ⟨last, hl⟩ : ∃ l, max (place + (mag.log2 : Int) - 52) (-1074) = l := ⟨_, rfl⟩
  rw [hl]
  have l1 : -1074 ≤ last := by omega
  have l2 : place + (mag.log2 : Int) - 52 ≤ last := by omega
  have l3 : last = -1074 ∨ last = place + (mag.log2 : Int) - 52 := by omega
  clear hl
  obtain ⟨up, hup⟩ : ∃ u, (place - last).toNat = u := ⟨_, rfl⟩
  obtain ⟨d, hd⟩ : ∃ u, (last - place).toNat = u := ⟨_, rfl⟩
  obtain ⟨k, hk⟩ : ∃ u, (last - -1074).toNat = u := ⟨_, rfl⟩
  rw [hup, hd, hk, Nat.shiftLeft_eq]
  have g1 : 2 ^ mag.log2 ≤ mag := Nat.log2_self_le hm
  have g2 : mag < 2 ^ (mag.log2 + 1) := Nat.lt_log2_self
  obtain ⟨L, hL⟩ : ∃ L, mag.log2 = L := ⟨_, rfl⟩
  rw [hL] at l2 l3 g1 g2
  obtain ⟨n, hn⟩ : ∃ n, mag * 2 ^ up = n := ⟨_, rfl⟩
  rw [hn]
  obtain ⟨more, hc, hmore, hex⟩ := cut_even neg n d
  rw [hc]
  have n1 : n < 2 ^ (L + 1 + up) := by rw [← hn, Nat.pow_add]; exact Nat.mul_lt_mul_of_pos_right g2 (Nat.two_pow_pos up)
  have n2 : 2 ^ (L + up) ≤ n := by rw [← hn, Nat.pow_add]; exact Nat.mul_le_mul_right _ g1
  have q1 : n / 2 ^ d < 9007199254740992 := by
    rw [Nat.div_lt_iff_lt_mul (Nat.two_pow_pos d)]
    refine Nat.lt_of_lt_of_le n1 ?_
    rw [show 9007199254740992 = 2 ^ 53 by decide, ← Nat.pow_add]
    exact Nat.pow_le_pow_right (by decide) (by omega)
  have q2 : k = 0 ∨ 4503599627370496 ≤ n / 2 ^ d := by
    by_cases hk0 : k = 0
    · exact .inl hk0
    · refine .inr ?_
      rw [Nat.le_div_iff_mul_le (Nat.two_pow_pos d), show 4503599627370496 = 2 ^ 52 by decide, ← Nat.pow_add]
      refine Nat.le_trans (Nat.pow_le_pow_right (by decide) ?_) n2
      omega
  have e1 : n = 2 ^ d * (n / 2 ^ d) + n % 2 ^ d := (Nat.div_add_mod n (2 ^ d)).symm
  have e2 : n % 2 ^ d < 2 ^ d := Nat.mod_lt _ (Nat.two_pow_pos d)
  generalize n / 2 ^ d = q at *
  refine ⟨k * 4503599627370496 + (q + more), rfl, fun a b hab => ?_⟩
  have key : mag * 2 ^ b * 2 ^ d = n * 2 ^ k * 2 ^ a := by
    rw [← hn, Nat.mul_assoc, Nat.mul_assoc, Nat.mul_assoc, ← Nat.pow_add, ← Nat.pow_add, ← Nat.pow_add, show b + d = up + (k + a) by omega]
  have hv0 := val_at k q q2 (by omega)
  have hv1 := val_at k (q + 1) (by omega) (by omega)
  have n3 : n < (q + 1) * 2 ^ d := by rw [Nat.add_mul, Nat.one_mul, Nat.mul_comm q]; omega
  constructor
  · intro r hr
    refine Nat.le_trans (n := r) (m := k * 4503599627370496 + q) ?_ (by omega)
    refine Nat.le_of_not_lt fun hlt => ?_
    have h1 : (q + 1) * 2 ^ k ≤ val r := by rw [← hv1]; exact val_le (by omega)
    have h2 : val r * 2 ^ a * 2 ^ d ≤ n * 2 ^ k * 2 ^ a := by rw [← key]; exact Nat.mul_le_mul_right _ hr
    have h3 : val r * 2 ^ d ≤ n * 2 ^ k := Nat.le_of_mul_le_mul_right (by rw [Nat.mul_right_comm]; exact h2) (Nat.two_pow_pos a)
    have h4 : n * 2 ^ k < (q + 1) * 2 ^ d * 2 ^ k := Nat.mul_lt_mul_of_pos_right n3 (Nat.two_pow_pos k)
    have h5 : (q + 1) * 2 ^ k * 2 ^ d ≤ val r * 2 ^ d := Nat.mul_le_mul_right _ h1
    rw [Nat.mul_right_comm] at h5
    omega
  · intro r hr
    refine Nat.le_of_not_lt fun hlt => ?_
    have h2 : n * 2 ^ k * 2 ^ a ≤ val r * 2 ^ a * 2 ^ d := by rw [← key]; exact Nat.mul_le_mul_right _ hr
    have h3 : n * 2 ^ k ≤ val r * 2 ^ d := Nat.le_of_mul_le_mul_right (by rw [Nat.mul_right_comm (val r)]; exact h2) (Nat.two_pow_pos a)
    by_cases hz : n % 2 ^ d = 0
    · have := hex hz
      have h1 : val r < q * 2 ^ k := by rw [← hv0]; exact val_lt (by omega)
      have h5 : val r * 2 ^ d < q * 2 ^ k * 2 ^ d := Nat.mul_lt_mul_of_pos_right h1 (Nat.two_pow_pos d)
      rw [hz, Nat.add_zero] at e1
      have h6 : n * 2 ^ k = q * 2 ^ k * 2 ^ d := by rw [e1, Nat.mul_comm (2 ^ d), Nat.mul_right_comm]
      omega
    · have h1 : val r ≤ q * 2 ^ k := by rw [← hv0]; exact val_le (by omega)
      have h5 : val r * 2 ^ d ≤ q * 2 ^ k * 2 ^ d := Nat.mul_le_mul_right _ h1
      have h6 : q * 2 ^ d * 2 ^ k < n * 2 ^ k := Nat.mul_lt_mul_of_pos_right (by rw [Nat.mul_comm]; omega) (Nat.two_pow_pos k)
      rw [Nat.mul_right_comm] at h6
      omega
/-- What has a rung is rounded to it. -/
theorem nearest_exact (neg : Bool) (mag : Nat) (place : Int) (a b ρ : Nat) (h : (b : Int) - a = place + 1074) (hv : val ρ * 2 ^ a = mag * 2 ^ b) (hf : ρ ≤ 9218868437227405312) :
    Ieee.double.nearest neg mag place = Ieee.double.word neg ρ := by
  by_cases hm : mag = 0
  · subst hm
    have h0 : val ρ = 0 := by
      have := Nat.two_pow_pos a
      rw [Nat.zero_mul] at hv
      exact (Nat.mul_eq_zero.1 hv).resolve_right (by omega)
    have : ρ = 0 := val_inj (by rw [h0, val_zero])
    subst this
    simp [Ieee.Format.nearest]
  · obtain ⟨R, hR, hs⟩ := nearest_spec neg mag place hm
    obtain ⟨h1, h2⟩ := hs a b h
    have := h1 ρ (Nat.le_of_eq hv)
    have := h2 ρ (Nat.le_of_eq hv.symm)
    rw [hR, show R = ρ by omega, Nat.min_eq_left hf]
/-- A word's sign and rung. -/
def neg (b : Nat) : Bool := b / 9223372036854775808 % 2 == 1
def rung (b : Nat) : Nat := b % 9223372036854775808
theorem word_eq (s : Bool) (r : Nat) : Ieee.double.word s r = if s then 9223372036854775808 + r else r := by
  unfold Ieee.Format.word; rw [signWeight_eq]
theorem neg_word (s : Bool) (r : Nat) (h : r < 9223372036854775808) : neg (Ieee.double.word s r) = s := by
  rw [word_eq]; unfold neg
  cases s
  · rw [if_neg (by decide)]; rw [beq_eq_false_iff_ne]; omega
  · rw [if_pos rfl]; rw [beq_iff_eq]; omega
theorem rung_word (s : Bool) (r : Nat) (h : r < 9223372036854775808) : rung (Ieee.double.word s r) = r := by
  rw [word_eq]; unfold rung
  cases s
  · rw [if_neg (by decide)]; omega
  · rw [if_pos rfl]; omega
theorem word_lt64 (s : Bool) (r : Nat) (h : r < 9223372036854775808) : Ieee.double.word s r < 18446744073709551616 := by
  rw [word_eq]; split <;> omega
/-- The number that a word stands for, in units of 2^-1074 (of an infinite one what is above all finite ones). -/
def V (b : Nat) : Int := if neg b then -(val (rung b) : Int) else val (rung b)
theorem V_word (s : Bool) (r : Nat) (h : r < 9223372036854775808) : V (Ieee.double.word s r) = if s then -(val r : Int) else val r := by
  unfold V; rw [neg_word s r h, rung_word s r h]
theorem read_fin (b : Nat) (h : rung b < 9218868437227405312) :
    ∃ m i : Nat, Ieee.double.read b = .number (neg b) m ((i : Int) - 1074) ∧ val (rung b) = m * 2 ^ i ∧ m < 9007199254740992 ∧ (i = 0 ∨ 4503599627370496 ≤ m) ∧ i ≤ 2045 := by
  unfold Ieee.Format.read
  simp only [signWeight_eq, binade_eq, infRung_eq, least_place]
  unfold rung at *
  obtain ⟨r, hr⟩ : ∃ r, b % 9223372036854775808 = r := ⟨_, rfl⟩
  rw [hr] at h ⊢
  by_cases h1 : r < 4503599627370496
  · rw [if_pos h1]
    refine ⟨r, 0, rfl, ?_, by omega, .inl rfl, by omega⟩
    unfold val; rw [if_pos h1]; simp
  · rw [if_neg h1, if_pos h]
    refine ⟨4503599627370496 + r % 4503599627370496, r / 4503599627370496 - 1, ?_, ?_, by omega, by omega, by omega⟩
    · show Ieee.Datum.number _ _ _ = _
      unfold neg
      congr 1
    · unfold val; rw [if_neg h1]
theorem read_inf (b : Nat) (h : rung b = 9218868437227405312) : Ieee.double.read b = .infinity (neg b) := by
  unfold Ieee.Format.read
  simp only [signWeight_eq, binade_eq, infRung_eq, least_place]
  unfold rung at h
  rw [h]
  rfl
theorem read_nan (b : Nat) (h : 9218868437227405312 < rung b) : ∃ t, Ieee.double.read b = .nan (neg b) t := by
  unfold Ieee.Format.read
  simp only [signWeight_eq, binade_eq, infRung_eq, least_place]
  unfold rung at h
  rw [if_neg (by omega), if_neg (by omega), if_neg (by omega)]
  exact ⟨_, rfl⟩
end Go.Proofs.YtfangllkfcmefaaGreat.W
