import Derived.Laws.FloatArith
/- Floating-point numbers of 64 bits as whole numbers of 2^-1074: rungs, rounding, reading. Nothing of the program is imported. -/
namespace Go.Proofs.YtlidlmgmijndcaaGreat.W
set_option linter.unusedVariables false
set_option linter.unusedSimpArgs false
/-- The size of the number that a rung stands for, in units of 2^-1074. -/
def val (r : Nat) : Nat := if r < 4503599627370496 then r else (4503599627370496 + r % 4503599627370496) * 2 ^ (r / 4503599627370496 - 1)
theorem val_at (k c : Nat) (h : k = 0 ∨ 4503599627370496 ≤ c) (h2 : c ≤ 9007199254740992) : val (k * 4503599627370496 + c) = c * 2 ^ k := by
  unfold val
  by_cases h1 : c < 4503599627370496
  · have : k = 0 := by omega
    subst this
    rw [if_pos (by omega)]; simp
  · rw [if_neg (by omega)]
    by_cases h3 : c < 9007199254740992
    · rw [show (k * 4503599627370496 + c) % 4503599627370496 = c - 4503599627370496 by omega, show (k * 4503599627370496 + c) / 4503599627370496 - 1 = k by omega, show 4503599627370496 + (c - 4503599627370496) = c by omega]
    · have : c = 9007199254740992 := by omega
      subst this
      rw [show (k * 4503599627370496 + 9007199254740992) % 4503599627370496 = 0 by omega, show (k * 4503599627370496 + 9007199254740992) / 4503599627370496 - 1 = k + 1 by omega, Nat.pow_succ]
      generalize 2 ^ k = t
      omega
theorem parts (r : Nat) : ∃ k c, r = k * 4503599627370496 + c ∧ (k = 0 ∨ 4503599627370496 ≤ c) ∧ c < 9007199254740992 ∧ k = r / 4503599627370496 - 1 := by
  by_cases h : r < 4503599627370496
  · exact ⟨0, r, by omega, .inl rfl, by omega, by omega⟩
  · exact ⟨r / 4503599627370496 - 1, 4503599627370496 + r % 4503599627370496, by omega, by omega, by omega, rfl⟩
theorem val_succ (r : Nat) : val r < val (r + 1) := by
  obtain ⟨k, c, rfl, h, h2, _⟩ := parts r
  rw [val_at k c h (by omega), Nat.add_assoc, val_at k (c + 1) (by omega) (by omega)]
  exact Nat.mul_lt_mul_of_pos_right (by omega) (Nat.two_pow_pos k)
theorem val_lt {r s : Nat} (h : r < s) : val r < val s := by
  induction s with
  | zero => omega
  | succ s ih =>
    by_cases e : r = s
    · subst e; exact val_succ r
    · exact Nat.lt_trans (ih (by omega)) (val_succ s)
theorem val_le {r s : Nat} (h : r ≤ s) : val r ≤ val s := by
  rcases Nat.lt_or_eq_of_le h with h | rfl
  · exact Nat.le_of_lt (val_lt h)
  · exact Nat.le_refl _
theorem val_inj {r s : Nat} (h : val r = val s) : r = s := by
  rcases Nat.lt_trichotomy r s with g | g | g
  · have := val_lt g; omega
  · exact g
  · have := val_lt g; omega
theorem lt_of_val {r s : Nat} (h : val r < val s) : r < s := by
  rcases Nat.lt_or_ge r s with g | g
  · exact g
  · have := val_le g; omega
theorem val_zero : val 0 = 0 := by decide
/-- Of at most 53 bits, at any place: a rung. -/
theorem rep (c k : Nat) (h : c < 9007199254740992) : ∃ r, val r = c * 2 ^ k := by
  induction k generalizing c with
  | zero => exact ⟨0 * 4503599627370496 + c, by rw [val_at 0 c (.inl rfl) (by omega)]⟩
  | succ k ih =>
    by_cases h1 : 4503599627370496 ≤ c
    · exact ⟨_, val_at (k + 1) c (.inr h1) (by omega)⟩
    · obtain ⟨r, hr⟩ := ih (2 * c) (by omega)
      exact ⟨r, by rw [hr, Nat.pow_succ]; generalize 2 ^ k = t; rw [Nat.mul_comm 2 c, Nat.mul_assoc, Nat.mul_comm 2 t]⟩
theorem cut_even (neg : Bool) (n d : Nat) : ∃ up : Nat, Ieee.Toward.even.cut neg n d = n / 2 ^ d + up ∧ up ≤ 1 ∧ (n % 2 ^ d = 0 → up = 0) := by
  unfold Ieee.Toward.cut
  simp only
  by_cases h : d ≤ n.log2 + 2
  · rw [Nat.min_eq_left h, Nat.shiftLeft_eq, Nat.one_mul]
    refine ⟨_, rfl, ?_, ?_⟩
    · cases (decide (2 ^ d < 2 * (n % 2 ^ d)) || 2 ^ d == 2 * (n % 2 ^ d) && n / 2 ^ d % 2 == 1) <;> simp
    · intro h0
      have := Nat.two_pow_pos d
      rw [h0]
      simp
  · rw [Nat.min_eq_right (by omega), Nat.shiftLeft_eq, Nat.one_mul]
    have h1 : n < 2 ^ (n.log2 + 1) := Nat.lt_log2_self
    have h2 : 2 ^ (n.log2 + 2) = 2 * 2 ^ (n.log2 + 1) := by rw [Nat.pow_succ 2 (n.log2 + 1), Nat.mul_comm]
    have h3 : n < 2 ^ (n.log2 + 2) := by omega
    have h4 : n < 2 ^ d := Nat.lt_of_lt_of_le h3 (Nat.pow_le_pow_right (by decide) (by omega))
    refine ⟨0, ?_, by omega, fun _ => rfl⟩
    rw [Nat.div_eq_of_lt h3, Nat.div_eq_of_lt h4, Nat.mod_eq_of_lt h3]
    have h5 : ¬ 2 ^ (n.log2 + 2) < 2 * n := by omega
    have h6 : (2 ^ (n.log2 + 2) == 2 * n) = false := by rw [beq_eq_false_iff_ne]; omega
    simp [h5, h6]
theorem least_place : Ieee.double.leastPlace = -1074 := by decide
theorem binade_eq : Ieee.double.binade = 4503599627370496 := by decide
theorem infRung_eq : Ieee.double.infRung = 9218868437227405312 := by decide
theorem signWeight_eq : Ieee.double.signWeight = 9223372036854775808 := by decide
/-- To round is to find a rung: none that is not above is above it, none that is not below is below it. -/
theorem nearest_spec (neg : Bool) (mag : Nat) (place : Int) (hm : mag ≠ 0) :
    ∃ R, Ieee.double.nearest neg mag place = Ieee.double.word neg (min R 9218868437227405312) ∧
      ∀ a b : Nat, (b : Int) - a = place + 1074 → (∀ r, val r * 2 ^ a ≤ mag * 2 ^ b → r ≤ R) ∧ (∀ r, mag * 2 ^ b ≤ val r * 2 ^ a → R ≤ r) := by
  unfold Ieee.Format.nearest
  rw [if_neg hm]
  simp only [least_place, binade_eq, infRung_eq]
  rw [show ((Ieee.double.fractionBits : Nat) : Int) = 52 from rfl]
  obtain ⟨last, hl⟩ : ∃ l, max (place + (mag.log2 : Int) - 52) (-1074) = l := ⟨_, rfl⟩
  rw [hl]
  have l1 : -1074 ≤ last := by omega
  have l2 : place + (mag.log2 : Int) - 52 ≤ last := by omega
  have l3 : last = -1074 ∨ last = place + (mag.log2 : Int) - 52 := by omega
  clear hl
  obtain ⟨up, hup⟩ : ∃ u, (place - last).toNat = u := ⟨_, rfl⟩
  obtain ⟨d, hd⟩ : ∃ u, (last - place).toNat = u := ⟨_, rfl⟩
  obtain ⟨k, hk⟩ : ∃ u, (last - -1074).toNat = u := ⟨_, rfl⟩
  rw [hup, hd, hk, Nat.shiftLeft_eq]
  have g1 : 2 ^ mag.log2 ≤ mag := Nat.log2_self_le hm
  have g2 : mag < 2 ^ (mag.log2 + 1) := Nat.lt_log2_self
  obtain ⟨L, hL⟩ : ∃ L, mag.log2 = L := ⟨_, rfl⟩
  rw [hL] at l2 l3 g1 g2
  obtain ⟨n, hn⟩ : ∃ n, mag * 2 ^ up = n := ⟨_, rfl⟩
  rw [hn]
  obtain ⟨more, hc, hmore, hex⟩ := cut_even neg n d
  rw [hc]
  have n1 : n < 2 ^ (L + 1 + up) := by rw [← hn, Nat.pow_add]; exact Nat.mul_lt_mul_of_pos_right g2 (Nat.two_pow_pos up)
  have n2 : 2 ^ (L + up) ≤ n := by rw [← hn, Nat.pow_add]; exact Nat.mul_le_mul_right _ g1
  have q1 : n / 2 ^ d < 9007199254740992 := by
    rw [Nat.div_lt_iff_lt_mul (Nat.two_pow_pos d)]
    refine Nat.lt_of_lt_of_le n1 ?_
    rw [show 9007199254740992 = 2 ^ 53 by decide, ← Nat.pow_add]
    exact Nat.pow_le_pow_right (by decide) (by omega)
  have q2 : k = 0 ∨ 4503599627370496 ≤ n / 2 ^ d := by
    by_cases hk0 : k = 0
    · exact .inl hk0
    · refine .inr ?_
      rw [Nat.le_div_iff_mul_le (Nat.two_pow_pos d), show 4503599627370496 = 2 ^ 52 by decide, ← Nat.pow_add]
      refine Nat.le_trans (Nat.pow_le_pow_right (by decide) ?_) n2
      omega
  have e1 : n = 2 ^ d * (n / 2 ^ d) + n % 2 ^ d := (Nat.div_add_mod n (2 ^ d)).symm
  have e2 : n % 2 ^ d < 2 ^ d := Nat.mod_lt _ (Nat.two_pow_pos d)
  generalize n / 2 ^ d = q at *
  refine ⟨k * 4503599627370496 + (q + more), rfl, fun a b hab => ?_⟩
  have key : mag * 2 ^ b * 2 ^ d = n * 2 ^ k * 2 ^ a := by
    rw [← hn, Nat.mul_assoc, Nat.mul_assoc, Nat.mul_assoc, ← Nat.pow_add, ← Nat.pow_add, ← Nat.pow_add, show b + d = up + (k + a) by omega]
  have hv0 := val_at k q q2 (by omega)
  have hv1 := val_at k (q + 1) (by omega) (by omega)
  have n3 : n < (q + 1) * 2 ^ d := by rw [Nat.add_mul, Nat.one_mul, Nat.mul_comm q]; omega
  constructor
  · intro r hr
    refine Nat.le_trans (n := r) (m := k * 4503599627370496 + q) ?_ (by omega)
    refine Nat.le_of_not_lt fun hlt => ?_
    have h1 : (q + 1) * 2 ^ k ≤ val r := by rw [← hv1]; exact val_le (by omega)
    have h2 : val r * 2 ^ a * 2 ^ d ≤ n * 2 ^ k * 2 ^ a := by rw [← key]; exact Nat.mul_le_mul_right _ hr
    have h3 : val r * 2 ^ d ≤ n * 2 ^ k := Nat.le_of_mul_le_mul_right (by rw [Nat.mul_right_comm]; exact h2) (Nat.two_pow_pos a)
    have h4 : n * 2 ^ k < (q + 1) * 2 ^ d * 2 ^ k := Nat.mul_lt_mul_of_pos_right n3 (Nat.two_pow_pos k)
    have h5 : (q + 1) * 2 ^ k * 2 ^ d ≤ val r * 2 ^ d := Nat.mul_le_mul_right _ h1
    rw [Nat.mul_right_comm] at h5
    omega
  · intro r hr
    refine Nat.le_of_not_lt fun hlt => ?_
    have h2 : n * 2 ^ k * 2 ^ a ≤ val r * 2 ^ a * 2 ^ d := by rw [← key]; exact Nat.mul_le_mul_right _ hr
    have h3 : n * 2 ^ k ≤ val r * 2 ^ d := Nat.le_of_mul_le_mul_right (by rw [Nat.mul_right_comm (val r)]; exact h2) (Nat.two_pow_pos a)
    by_cases hz : n % 2 ^ d = 0
    · have := hex hz
      have h1 : val r < q * 2 ^ k := by rw [← hv0]; exact val_lt (by omega)
      have h5 : val r * 2 ^ d < q * 2 ^ k * 2 ^ d := Nat.mul_lt_mul_of_pos_right h1 (Nat.two_pow_pos d)
      rw [hz, Nat.add_zero] at e1
      have h6 : n * 2 ^ k = q * 2 ^ k * 2 ^ d := by rw [e1, Nat.mul_comm (2 ^ d), Nat.mul_right_comm]
      omega
    · have h1 : val r ≤ q * 2 ^ k := by rw [← hv0]; exact val_le (by omega)
      have h5 : val r * 2 ^ d ≤ q * 2 ^ k * 2 ^ d := Nat.mul_le_mul_right _ h1
      have h6 : q * 2 ^ d * 2 ^ k < n * 2 ^ k := Nat.mul_lt_mul_of_pos_right (by rw [Nat.mul_comm]; omega) (Nat.two_pow_pos k)
      rw [Nat.mul_right_comm] at h6
      omega
/-- What has a rung is rounded to it. -/
theorem nearest_exact (neg : Bool) (mag : Nat) (place : Int) (a b ρ : Nat) (h : (b : Int) - a = place + 1074) (hv : val ρ * 2 ^ a = mag * 2 ^ b) (hf : ρ ≤ 9218868437227405312) :
    Ieee.double.nearest neg mag place = Ieee.double.word neg ρ := by
  by_cases hm : mag = 0
  · subst hm
    have h0 : val ρ = 0 := by
      have := Nat.two_pow_pos a
      rw [Nat.zero_mul] at hv
      exact (Nat.mul_eq_zero.1 hv).resolve_right (by omega)
    have : ρ = 0 := val_inj (by rw [h0, val_zero])
    subst this
    simp [Ieee.Format.nearest]
  · obtain ⟨R, hR, hs⟩ := nearest_spec neg mag place hm
    obtain ⟨h1, h2⟩ := hs a b h
    have := h1 ρ (Nat.le_of_eq hv)
    have := h2 ρ (Nat.le_of_eq hv.symm)
    rw [hR, show R = ρ by omega, Nat.min_eq_left hf]
/-- A word's sign and rung. -/
def neg (b : Nat) : Bool := b / 9223372036854775808 % 2 == 1
def rung (b : Nat) : Nat := b % 9223372036854775808
theorem word_eq (s : Bool) (r : Nat) : Ieee.double.word s r = if s then 9223372036854775808 + r else r := by
  unfold Ieee.Format.word; rw [signWeight_eq]
theorem neg_word (s : Bool) (r : Nat) (h : r < 9223372036854775808) : neg (Ieee.double.word s r) = s := by
  rw [word_eq]; unfold neg
  cases s
  · rw [if_neg (by decide)]; rw [beq_eq_false_iff_ne]; omega
  · rw [if_pos rfl]; rw [beq_iff_eq]; omega
theorem rung_word (s : Bool) (r : Nat) (h : r < 9223372036854775808) : rung (Ieee.double.word s r) = r := by
  rw [word_eq]; unfold rung
  cases s
  · rw [if_neg (by decide)]; omega
  · rw [if_pos rfl]; omega
theorem word_lt64 (s : Bool) (r : Nat) (h : r < 9223372036854775808) : Ieee.double.word s r < 18446744073709551616 := by
  rw [word_eq]; split <;> omega
/-- The number that a word stands for, in units of 2^-1074 (of an infinite one what is above all finite ones). -/
def V (b : Nat) : Int := if neg b then -(val (rung b) : Int) else val (rung b)
theorem V_word (s : Bool) (r : Nat) (h : r < 9223372036854775808) : V (Ieee.double.word s r) = if s then -(val r : Int) else val r := by
  unfold V; rw [neg_word s r h, rung_word s r h]
theorem read_fin (b : Nat) (h : rung b < 9218868437227405312) :
    ∃ m i : Nat, Ieee.double.read b = .number (neg b) m ((i : Int) - 1074) ∧ val (rung b) = m * 2 ^ i ∧ m < 9007199254740992 ∧ (i = 0 ∨ 4503599627370496 ≤ m) ∧ i ≤ 2045 := by
  unfold Ieee.Format.read
  simp only [signWeight_eq, binade_eq, infRung_eq, least_place]
  unfold rung at *
  obtain ⟨r, hr⟩ : ∃ r, b % 9223372036854775808 = r := ⟨_, rfl⟩
  rw [hr] at h ⊢
  by_cases h1 : r < 4503599627370496
  · rw [if_pos h1]
    refine ⟨r, 0, rfl, ?_, by omega, .inl rfl, by omega⟩
    unfold val; rw [if_pos h1]; simp
  · rw [if_neg h1, if_pos h]
    refine ⟨4503599627370496 + r % 4503599627370496, r / 4503599627370496 - 1, ?_, ?_, by omega, by omega, by omega⟩
    · show Ieee.Datum.number _ _ _ = _
      unfold neg
      congr 1
    · unfold val; rw [if_neg h1]
theorem read_inf (b : Nat) (h : rung b = 9218868437227405312) : Ieee.double.read b = .infinity (neg b) := by
  unfold Ieee.Format.read
  simp only [signWeight_eq, binade_eq, infRung_eq, least_place]
  unfold rung at h
  rw [h]
  rfl
theorem read_nan (b : Nat) (h : 9218868437227405312 < rung b) : ∃ t, Ieee.double.read b = .nan (neg b) t := by
  unfold Ieee.Format.read
  simp only [signWeight_eq, binade_eq, infRung_eq, least_place]
  unfold rung at h
  rw [if_neg (by omega), if_neg (by omega), if_neg (by omega)]
  exact ⟨_, rfl⟩
end Go.Proofs.YtlidlmgmijndcaaGreat.W

/- Floating-point numbers of 64 bits as whole numbers of 2^-1074: their order, products and quotients by 2^32, whole numbers. Nothing of the program is imported. -/
namespace Go.Proofs.YtlidlmgmijndcaaGreat.W
set_option linter.unusedVariables false
set_option linter.unusedSimpArgs false
def pw (n : Nat) : Nat := 2 ^ n
theorem pw_pos (n : Nat) : 0 < pw n := Nat.two_pow_pos n
theorem pw_add (a b : Nat) : pw (a + b) = pw a * pw b := Nat.pow_add 2 a b
theorem pw_le {a b : Nat} (h : a ≤ b) : pw a ≤ pw b := Nat.pow_le_pow_right (by decide) h
theorem pw64 : pw 64 = 18446744073709551616 := rfl
theorem nearest_exact_pw (neg : Bool) (mag : Nat) (place : Int) (a b ρ : Nat) (h : (b : Int) - a = place + 1074) (hv : val ρ * pw a = mag * pw b) (hf : ρ ≤ 9218868437227405312) :
    Ieee.double.nearest neg mag place = Ieee.double.word neg ρ := nearest_exact neg mag place a b ρ h hv hf
theorem rep_pw (c k : Nat) (h : c < 9007199254740992) : ∃ r, val r = c * pw k := rep c k h
theorem pw_zero : pw 0 = 1 := rfl
/-- One second, in units of 2^-1074. -/
def U : Int := pw 1074
theorem U_pos : 0 < U := by have := pw_pos 1074; unfold U; omega
def isN (b : Nat) : Prop := rung b ≤ 9218868437227405312
def isF (b : Nat) : Prop := rung b < 9218868437227405312
theorem isF.isN {b : Nat} (h : isF b) : isN b := Nat.le_of_lt h
instance (b : Nat) : Decidable (isN b) := inferInstanceAs (Decidable (_ ≤ _))
instance (b : Nat) : Decidable (isF b) := inferInstanceAs (Decidable (_ < _))
theorem val_inf : val 9218868437227405312 = pw 2098 := by
  obtain ⟨k, hk⟩ : ∃ k, 2046 = k := ⟨_, rfl⟩
  rw [show 2098 = 52 + k by omega, show 9218868437227405312 = k * 4503599627370496 + 4503599627370496 by omega, val_at _ _ (.inr (by decide)) (by decide), pw_add]
  rfl
theorem signed_add (s : Bool) (m u v : Nat) : Ieee.signed s m (u + v) = Ieee.signed s m u * 2 ^ v := by
  unfold Ieee.signed
  rw [Nat.shiftLeft_eq, Nat.shiftLeft_eq, Nat.pow_add, ← Nat.mul_assoc]
  have : (((2 : Nat) ^ v : Nat) : Int) = (2 : Int) ^ v := by rw [Int.natCast_pow]; rfl
  rw [← this]
  split
  · rw [Int.natCast_mul, Int.neg_mul]
  · rw [Int.natCast_mul]
theorem V_signed {b m i : Nat} (h : val (rung b) = m * 2 ^ i) : V b = Ieee.signed (neg b) m i := by
  unfold V Ieee.signed
  rw [h, Nat.shiftLeft_eq]
theorem compare_scale (a b c : Int) (hc : 0 < c) : compare (a * c) (b * c) = compare a b := by
  show compareOfLessAndEq _ _ = compareOfLessAndEq _ _
  unfold compareOfLessAndEq
  have h1 : (a * c < b * c) ↔ a < b := ⟨fun h => Int.lt_of_mul_lt_mul_right h (Int.le_of_lt hc), fun h => Int.mul_lt_mul_of_pos_right h hc⟩
  have h2 : (a * c = b * c) ↔ a = b := ⟨fun h => Int.eq_of_mul_eq_mul_right (by omega) h, fun h => by rw [h]⟩
  simp only [h1, h2]
theorem V_abs_lt {b : Nat} (h : isF b) : V b < (val 9218868437227405312 : Int) ∧ -(val 9218868437227405312 : Int) < V b := by
  have := val_lt h
  unfold V; split <;> omega
theorem order_num {x y : Nat} (hx : isN x) (hy : isN y) : Ieee.double.order x y = some (compare (V x) (V y)) := by
  unfold Ieee.Format.order
  rcases Nat.lt_or_eq_of_le hx with fx | ix
  · obtain ⟨m, i, e, v, _⟩ := read_fin x fx
    rcases Nat.lt_or_eq_of_le hy with fy | iy
    · obtain ⟨n, j, e2, v2, _⟩ := read_fin y fy
      rw [e, e2]
      show some (compare _ _) = _
      rw [V_signed v, V_signed v2]
      obtain ⟨u, hu⟩ : ∃ u, ((i : Int) - 1074 - min ((i : Int) - 1074) ((j : Int) - 1074)).toNat = u := ⟨_, rfl⟩
      obtain ⟨t, ht⟩ : ∃ u, ((j : Int) - 1074 - min ((i : Int) - 1074) ((j : Int) - 1074)).toNat = u := ⟨_, rfl⟩
      obtain ⟨k, hk⟩ : ∃ k, min i j = k := ⟨_, rfl⟩
      obtain rfl : i = u + k := by omega
      obtain rfl : j = t + k := by omega
      rw [hu, ht, signed_add, signed_add, compare_scale _ _ _ (Int.pow_pos (by decide))]
    · rw [e, read_inf y iy]
      have h1 := V_abs_lt fx
      have h2 : V y = if neg y then -(val 9218868437227405312 : Int) else val 9218868437227405312 := by unfold V; rw [iy]
      show some _ = _
      congr 1
      rw [h2]
      cases neg y
      · show Ordering.lt = compareOfLessAndEq _ _
        unfold compareOfLessAndEq; rw [if_pos (by simp; omega)]
      · show Ordering.gt = compareOfLessAndEq _ _
        unfold compareOfLessAndEq; rw [if_neg (by simp; omega), if_neg (by simp; omega)]
  · have h2 : V x = if neg x then -(val 9218868437227405312 : Int) else val 9218868437227405312 := by unfold V; rw [ix]
    rcases Nat.lt_or_eq_of_le hy with fy | iy
    · obtain ⟨n, j, e2, v2, _⟩ := read_fin y fy
      rw [e2, read_inf x ix]
      have h1 := V_abs_lt fy
      show some _ = _
      congr 1
      rw [h2]
      cases neg x
      · show Ordering.gt = compareOfLessAndEq _ _
        unfold compareOfLessAndEq; rw [if_neg (by simp; omega), if_neg (by simp; omega)]
      · show Ordering.lt = compareOfLessAndEq _ _
        unfold compareOfLessAndEq; rw [if_pos (by simp; omega)]
    · rw [read_inf x ix, read_inf y iy]
      have h3 : V y = if neg y then -(val 9218868437227405312 : Int) else val 9218868437227405312 := by unfold V; rw [iy]
      have h4 : 0 < val 9218868437227405312 := by rw [val_inf]; exact pw_pos _
      show some (compare _ _) = _
      congr 1
      rw [h2, h3]
      generalize val 9218868437227405312 = v at *
      have h5 : (0 : Int) < v := by omega
      generalize (v : Int) = z at *
      cases neg x <;> cases neg y
      · show Ordering.eq = compareOfLessAndEq z z
        unfold compareOfLessAndEq; rw [if_neg (by omega), if_pos rfl]
      · show Ordering.gt = compareOfLessAndEq z (-z)
        unfold compareOfLessAndEq; rw [if_neg (by omega), if_neg (by omega)]
      · show Ordering.lt = compareOfLessAndEq (-z) z
        unfold compareOfLessAndEq; rw [if_pos (by omega)]
      · show Ordering.eq = compareOfLessAndEq (-z) (-z)
        unfold compareOfLessAndEq; rw [if_neg (by omega), if_pos rfl]
theorem order_lt {x y : Nat} (hx : isN x) (hy : isN y) (h : V x < V y) : FloatKind.f64.format.order x y = some .lt := by
  show Ieee.double.order x y = _
  rw [order_num hx hy]; congr 1; show compareOfLessAndEq _ _ = _; unfold compareOfLessAndEq; rw [if_pos h]
theorem order_eq {x y : Nat} (hx : isN x) (hy : isN y) (h : V x = V y) : FloatKind.f64.format.order x y = some .eq := by
  show Ieee.double.order x y = _
  rw [order_num hx hy]; congr 1; show compareOfLessAndEq _ _ = _; unfold compareOfLessAndEq; rw [if_neg (by omega), if_pos h]
theorem order_gt {x y : Nat} (hx : isN x) (hy : isN y) (h : V y < V x) : FloatKind.f64.format.order x y = some .gt := by
  show Ieee.double.order x y = _
  rw [order_num hx hy]; congr 1; show compareOfLessAndEq _ _ = _; unfold compareOfLessAndEq; rw [if_neg (by omega), if_neg (by omega)]
theorem order_none {x y : Nat} (h : ¬ isN x ∨ ¬ isN y) : FloatKind.f64.format.order x y = none := by
  show Ieee.double.order x y = _
  unfold Ieee.Format.order
  rcases h with h | h
  · obtain ⟨t, e⟩ := read_nan x (by unfold isN at h; omega)
    rw [e]; rfl
  · obtain ⟨t, e⟩ := read_nan y (by unfold isN at h; omega)
    rw [e]
    cases Ieee.double.read x <;> rfl
theorem abs_V (x : Nat) : (V x).natAbs = val (rung x) := by unfold V; split <;> simp
/-- 2^32. -/
theorem read_c : Ieee.double.read 4751297606875873280 = .number false 4503599627370496 (-20) := by decide +kernel
theorem V_word_scale {x ρ : Nat} {c : Int} (h : (val ρ : Int) = val (rung x) * c) (hr : ρ < 9223372036854775808) : V (Ieee.double.word (neg x) ρ) = V x * c := by
  rw [V_word _ _ hr]; unfold V; split
  · rw [h, Int.neg_mul]
  · exact h
theorem lt_inf_of {r : Nat} (h : val r < pw 2098) : r < 9218868437227405312 := lt_of_val (by rw [val_inf]; exact h)
theorem mul_c {x : Nat} (hx : isF x) (h : (V x).natAbs < 2147483648 * pw 1074) :
    ∃ y, FloatKind.f64.format.mul x 4751297606875873280 = some y ∧ isF y ∧ V y = V x * 4294967296 ∧ y < 18446744073709551616 ∧ neg y = neg x := by
  obtain ⟨m, i, e, v, hm, _, _⟩ := read_fin x hx
  obtain ⟨ρ, hρ⟩ := rep m (i + 32) hm
  have hρ2 : val ρ = val (rung x) * 4294967296 := by rw [hρ, v, Nat.pow_add, Nat.mul_assoc]
  rw [abs_V] at h
  have hf : ρ < 9218868437227405312 := by
    apply lt_inf_of
    rw [hρ2, show 2098 = 1074 + 1024 by decide, pw_add]
    have : (9223372036854775808 : Nat) ≤ pw 1024 := Nat.le_trans (by decide : (9223372036854775808 : Nat) ≤ pw 63) (pw_le (by decide))
    have h2 : pw 1074 * 9223372036854775808 ≤ pw 1074 * pw 1024 := Nat.mul_le_mul_left _ this
    refine Nat.lt_of_lt_of_le ?_ h2
    omega
  refine ⟨Ieee.double.word (neg x) ρ, ?_, ?_, ?_, ?_, ?_⟩
  · show Ieee.double.mul x _ = _
    unfold Ieee.Format.mul
    rw [e, read_c]
    show some (Ieee.double.nearest (neg x ^^ false) (m * 4503599627370496) ((i : Int) - 1074 + -20)) = _
    rw [Bool.xor_false]
    congr 1
    refine nearest_exact _ _ _ 20 i ρ (by omega) ?_ (by omega)
    rw [hρ, Nat.pow_add, Nat.mul_assoc, Nat.mul_assoc, Nat.mul_assoc]
    generalize 2 ^ i = t
    rw [show (2 : Nat) ^ 32 * 2 ^ 20 = 4503599627370496 by decide, Nat.mul_comm t]
  · unfold isF; rw [rung_word _ _ (by omega)]; exact hf
  · exact V_word_scale (c := 4294967296) (by omega) (by omega)
  · exact word_lt64 _ _ (by omega)
  · exact neg_word _ _ (by omega)
end Go.Proofs.YtlidlmgmijndcaaGreat.W

/- Floating-point numbers of 64 bits as whole numbers of 2^-1074: from and to whole numbers, rounded down. Nothing of the program is imported. -/
namespace Go.Proofs.YtlidlmgmijndcaaGreat.W
set_option linter.unusedVariables false
set_option linter.unusedSimpArgs false
theorem big1024 : 9223372036854775808 < pw 1024 := by
  have h := pw_le (a := 64) (b := 1024) (by decide)
  rw [pw64] at h
  omega
theorem signed_zero (s : Bool) (m : Nat) : Ieee.signed s m 0 = if s then -(m : Int) else m := rfl
theorem pow_castF (d : Nat) : ((2 ^ d : Nat) : Int) = (2 : Int) ^ d := by rw [Int.natCast_pow]; rfl
theorem cut_down (s : Bool) (n d : Nat) : Ieee.signed s (Ieee.Toward.down.cut s n d) 0 = Ieee.signed s n 0 / 2 ^ d := by
  rw [← pow_castF, signed_zero, signed_zero]
  unfold Ieee.Toward.cut
  simp only
  have hcap : ∃ g, g = 1 <<< min d (n.log2 + 2) ∧ 0 < g ∧ ((g = 2 ^ d) ∨ (n < g ∧ n < 2 ^ d)) := by
    refine ⟨_, rfl, ?_, ?_⟩
    · rw [Nat.shiftLeft_eq, Nat.one_mul]; exact Nat.two_pow_pos _
    · rw [Nat.shiftLeft_eq, Nat.one_mul]
      by_cases h : d ≤ n.log2 + 2
      · left; rw [Nat.min_eq_left h]
      · right
        have h1 : n < 2 ^ (n.log2 + 1) := Nat.lt_log2_self
        rw [Nat.min_eq_right (by omega)]
        exact ⟨Nat.lt_of_lt_of_le h1 (Nat.pow_le_pow_right (by decide) (by omega)), Nat.lt_of_lt_of_le h1 (Nat.pow_le_pow_right (by decide) (by omega))⟩
  obtain ⟨g, hg, hg0, hcase⟩ := hcap
  rw [← hg]
  clear hg
  have hd := Nat.two_pow_pos d
  generalize 2 ^ d = t at *
  have e1 := Nat.div_add_mod n g
  have e2 := Nat.mod_lt n hg0
  cases s
  · simp only [Bool.false_and, Bool.toNat_false, Nat.add_zero, Bool.false_eq_true, if_false]
    rcases hcase with rfl | ⟨a, b⟩
    · exact Int.natCast_ediv n g
    · rw [Nat.div_eq_of_lt a, Int.ediv_eq_zero_of_lt (by omega) (by omega)]; rfl
  · simp only [Bool.true_and, if_true]
    rcases hcase with rfl | ⟨a, b⟩
    · by_cases hr : n % g = 0
      · rw [hr]
        simp only [bne_self_eq_false, Bool.toNat_false, Nat.add_zero]
        have : (n : Int) = (n / g : Nat) * g := by rw [hr, Nat.add_zero] at e1; rw [← Int.natCast_mul, Nat.mul_comm, e1]
        rw [show (-(n : Int)) = (-((n / g : Nat) : Int)) * g by rw [Int.neg_mul, ← this], Int.mul_ediv_cancel _ (by omega)]
      · rw [show (n % g != 0) = true by simpa using hr]
        simp only [Bool.toNat_true]
        have : (n : Int) = g * (n / g : Nat) + (n % g : Nat) := by rw [← Int.natCast_mul, ← Int.natCast_add, e1]
        rw [eq_comm, Int.ediv_eq_iff_of_pos (by omega)]
        generalize n / g = q at *
        generalize n % g = r at *
        have h1 : (-((q + 1 : Nat) : Int)) * g = -((g : Int) * q) - g := by rw [Int.natCast_add, Int.neg_mul, Int.add_mul, Int.mul_comm]; omega
        rw [h1]
        have h2 : (-((q + 1 : Nat) : Int) + 1) * g = -((g : Int) * q) := by rw [show (-((q + 1 : Nat) : Int) + 1) = -(q : Int) by omega, Int.neg_mul, Int.mul_comm]
        first | (rw [h2]; omega) | omega
    · rw [Nat.div_eq_of_lt a, Nat.mod_eq_of_lt a]
      by_cases hr : n = 0
      · subst hr; simp
      · rw [show (n != 0) = true by simpa using hr]
        have h1 : (-(n : Int)) / (t : Int) = -1 := by
          rw [Int.ediv_eq_iff_of_pos (by omega)]; omega
        rw [h1]; rfl
theorem cut_zero (s : Bool) (n d : Nat) : Ieee.Toward.zero.cut s n d = n / 2 ^ d := by
  unfold Ieee.Toward.cut
  simp only [Bool.toNat_false, Nat.add_zero]
  rw [Nat.shiftLeft_eq, Nat.one_mul]
  by_cases h : d ≤ n.log2 + 2
  · rw [Nat.min_eq_left h]
  · have h1 : n < 2 ^ (n.log2 + 1) := Nat.lt_log2_self
    rw [Nat.min_eq_right (by omega), Nat.div_eq_of_lt (Nat.lt_of_lt_of_le h1 (Nat.pow_le_pow_right (by decide) (by omega))), Nat.div_eq_of_lt (Nat.lt_of_lt_of_le h1 (Nat.pow_le_pow_right (by decide) (by omega)))]
end Go.Proofs.YtlidlmgmijndcaaGreat.W

/- Floating-point numbers of 64 bits as whole numbers of 2^-1074: rounded down, cut to whole numbers, sums. Nothing of the program is imported. -/
namespace Go.Proofs.YtlidlmgmijndcaaGreat.W
set_option linter.unusedVariables false
set_option linter.unusedSimpArgs false
theorem whole_parts (x : Nat) (hx : isF x) : ∃ m up d i : Nat, Ieee.double.read x = .number (neg x) m ((i : Int) - 1074) ∧ ((i : Int) - 1074).toNat = up ∧ (-((i : Int) - 1074)).toNat = d ∧ m < 9007199254740992 ∧ val (rung x) = m * 2 ^ i ∧
    (d = 0 ∨ up = 0) ∧ val (rung x) * 2 ^ d = m * 2 ^ up * pw 1074 := by
  obtain ⟨m, i, e, v, hm, _, _⟩ := read_fin x hx
  refine ⟨m, _, _, i, e, rfl, rfl, hm, v, by omega, ?_⟩
  have h : ∀ u d : Nat, i + d = u + 1074 → 2 ^ i * 2 ^ d = 2 ^ u * pw 1074 := fun u d h => by
    rw [show (2 : Nat) ^ i = pw i from rfl, show (2 : Nat) ^ d = pw d from rfl, show (2 : Nat) ^ u = pw u from rfl, ← pw_add, ← pw_add, h]
  rw [v, Nat.mul_assoc, Nat.mul_assoc, h ((i : Int) - 1074).toNat (-((i : Int) - 1074)).toNat (by omega)]
theorem to_int (x : Nat) (hx : isF x) : (Ieee.double.read x).toInt .zero = some ((V x).tdiv U) := by
  obtain ⟨m, up, d, i, e, hu, hd, hm, v, hc, hv⟩ := whole_parts x hx
  rw [e]
  show some (Ieee.signed (neg x) (Ieee.Toward.zero.cut (neg x) (m <<< ((i : Int) - 1074).toNat) (-((i : Int) - 1074)).toNat) 0) = _
  rw [hu, hd, cut_zero, Nat.shiftLeft_eq, signed_zero]
  congr 1
  have h : m * 2 ^ up / 2 ^ d = val (rung x) / pw 1074 := by
    rw [← Nat.mul_div_mul_right _ _ (pw_pos 1074), ← hv, Nat.mul_comm (2 ^ d), Nat.mul_div_mul_right _ _ (Nat.two_pow_pos d)]
  rw [h]
  unfold V U
  split
  · rw [Int.neg_tdiv, Int.ofNat_tdiv]
  · rw [Int.ofNat_tdiv]
theorem to_int64 (x : Nat) (hx : isF x) (h : -9223372036854775808 * U ≤ V x) (h' : V x < 9223372036854775808 * U) : floatToIntVal .f64 x .i64 = some ((V x).tdiv U) := by
  unfold floatToIntVal
  have e : (FloatKind.f64.decode x).toInt .zero = some ((V x).tdiv U) := to_int x hx
  rw [e]
  have h1 : IntKind.i64.min = -9223372036854775808 := by decide
  have h2 : IntKind.i64.max = 9223372036854775807 := by decide
  simp only [h1, h2]
  have hU : U = (pw 1074 : Int) := rfl
  have hp := pw_pos 1074
  have hb : -9223372036854775808 ≤ (V x).tdiv U ∧ (V x).tdiv U ≤ 9223372036854775807 := by
    unfold V at *
    rw [hU] at h h' ⊢
    generalize pw 1074 = p at *
    generalize val (rung x) = v at *
    split at h <;> rename_i hn
    · rw [if_pos hn]
      rw [Int.neg_tdiv, ← Int.ofNat_tdiv]
      have : v / p ≤ 9223372036854775808 := Nat.div_le_of_le_mul (by rw [Nat.mul_comm]; omega)
      show -9223372036854775808 ≤ -((v / p : Nat) : Int) ∧ -((v / p : Nat) : Int) ≤ 9223372036854775807
      generalize v / p = q at *
      omega
    · rw [if_neg hn]
      rw [if_neg hn] at h'
      rw [← Int.ofNat_tdiv]
      have : v / p < 9223372036854775808 := (Nat.div_lt_iff_lt_mul hp).2 (by omega)
      show -9223372036854775808 ≤ ((v / p : Nat) : Int) ∧ ((v / p : Nat) : Int) ≤ 9223372036854775807
      generalize v / p = q at *
      omega
  rw [if_pos hb]
/-- What Floor gives. -/
theorem floor_spec (x : Nat) (hx : isF x) (h : (V x).natAbs < 9223372036854775808 * pw 1074) :
    isF (Ieee.double.write ((Ieee.double.read x).integral .down)) ∧ Ieee.double.write ((Ieee.double.read x).integral .down) < 18446744073709551616 ∧ V (Ieee.double.write ((Ieee.double.read x).integral .down)) = V x / U * U := by
  obtain ⟨m, up, d, i, e, hu, hd, hm, v, hc, hv⟩ := whole_parts x hx
  rw [e]
  have e2 : Ieee.double.write ((Ieee.Datum.number (neg x) m ((i : Int) - 1074)).integral .down) = Ieee.double.nearest (neg x) (Ieee.Toward.down.cut (neg x) (m <<< ((i : Int) - 1074).toNat) (-((i : Int) - 1074)).toNat) 0 := rfl
  rw [e2, hu, hd, Nat.shiftLeft_eq]
  clear e e2
  have hs := cut_down (neg x) (m * 2 ^ up) d
  generalize hM : Ieee.Toward.down.cut (neg x) (m * 2 ^ up) d = M at hs ⊢
  have hV : V x / U = Ieee.signed (neg x) (m * 2 ^ up) 0 / 2 ^ d := by
    have h1 : V x * 2 ^ d = Ieee.signed (neg x) (m * 2 ^ up) 0 * U := by
      rw [← pow_castF, signed_zero]
      unfold V U
      split
      · rw [Int.neg_mul, Int.neg_mul, ← Int.natCast_mul, ← Int.natCast_mul, hv]
      · rw [← Int.natCast_mul, ← Int.natCast_mul, hv]
    have hp : (0 : Int) < 2 ^ d := Int.pow_pos (by decide)
    rw [← Int.mul_ediv_mul_of_pos_left (V x) U hp, h1, Int.mul_comm U, Int.mul_ediv_mul_of_pos_left _ _ U_pos]
  rw [← hs] at hV
  have hVx := abs_V x
  have hsg : V x = if neg x then -(val (rung x) : Int) else val (rung x) := rfl
  have hMb : M < 9223372036854775809 := by
    have hU := U_pos
    have hUe : U = (pw 1074 : Int) := rfl
    have a1 : V x / U < 9223372036854775808 := Int.ediv_lt_of_lt_mul hU (by rw [hUe]; omega)
    have a2 : -9223372036854775808 ≤ V x / U := (Int.le_ediv_iff_mul_le hU).2 (by rw [hUe]; omega)
    rw [hV, signed_zero] at a1 a2
    split at a1 <;> rename_i hh <;> simp only [hh] at a2 <;> simp at a1 a2 <;> omega
  obtain ⟨ρ, hρ⟩ : ∃ ρ, val ρ = M * pw 1074 := by
    rcases hc with rfl | rfl
    · rw [signed_zero, signed_zero] at hs
      have : M = m * 2 ^ up := by
        simp only [Int.pow_zero, Int.ediv_one] at hs
        split at hs <;> omega
      obtain ⟨ρ, hρ⟩ := rep_pw m (up + 1074) hm
      exact ⟨ρ, by rw [hρ, pw_add, this, Nat.mul_assoc]; rfl⟩
    · have : M ≤ m := by
        rw [signed_zero, signed_zero, ← pow_castF] at hs
        have hp := Nat.two_pow_pos d
        generalize 2 ^ d = t at *
        split at hs
        · have : -(m : Int) ≤ -((m * 2 ^ 0 : Nat) : Int) / t := (Int.le_ediv_iff_mul_le (by omega)).2 (by
            have : (m : Int) * 1 ≤ m * t := Int.mul_le_mul_of_nonneg_left (by omega) (by omega)
            rw [Int.neg_mul]; simp; omega)
          omega
        · have : ((m * 2 ^ 0 : Nat) : Int) / t ≤ m := Int.ediv_le_of_le_mul (by omega) (by
            have : (m : Int) * 1 ≤ m * t := Int.mul_le_mul_of_nonneg_left (by omega) (by omega)
            simp; omega)
          omega
      exact rep_pw M 1074 (by omega)
  have hf : ρ < 9218868437227405312 := lt_inf_of (by
    rw [hρ, show 2098 = 1024 + 1074 by decide, pw_add]
    have := big1024
    exact Nat.mul_lt_mul_of_pos_right (by
      have h := pw_le (a := 64) (b := 1024) (by decide)
      rw [pw64] at h
      omega) (pw_pos _))
  rw [nearest_exact_pw (neg x) M 0 0 1074 ρ (by omega) (by rw [hρ, pw_zero, Nat.mul_one]) (by omega)]
  refine ⟨by unfold isF; rw [rung_word _ _ (by omega)]; exact hf, word_lt64 _ _ (by omega), ?_⟩
  rw [V_word _ _ (by omega), hV, signed_zero, hρ]
  split
  · rw [Int.natCast_mul, Int.neg_mul]; rfl
  · rw [Int.natCast_mul]; rfl
end Go.Proofs.YtlidlmgmijndcaaGreat.W

