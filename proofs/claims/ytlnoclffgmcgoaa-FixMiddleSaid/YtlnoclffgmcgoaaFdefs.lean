/- Plain functions on whole numbers that the walks of layer 2 speak of; nothing of the program is imported. -/
import Derived.Test.YtlnoclffgmcgoaaWlog
import Derived.Test.YtlnoclffgmcgoaaWdiv
namespace Go.Proofs.Ytlnoclffgmcgoaa.W
open Go.RowKit
set_option linter.unusedVariables false
/-- A number, cut. -/
def cutI (x : Int) : Int := if x < -9223372036854775807 then -9223372036854775807 else if 9223372036854775807 < x then 9223372036854775807 else x
theorem cutI_in (x : Int) (h : -9223372036854775807 ≤ x) (h' : x ≤ 9223372036854775807) : cutI x = x := by unfold cutI; omega
theorem cutI_high (x : Int) (h : 9223372036854775807 ≤ x) : cutI x = 9223372036854775807 := by unfold cutI; omega
theorem cutI_low (x : Int) (h : x ≤ -9223372036854775807) : cutI x = -9223372036854775807 := by unfold cutI; omega
theorem cutI_range (x : Int) : -9223372036854775807 ≤ cutI x ∧ cutI x ≤ 9223372036854775807 := by unfold cutI; omega
theorem cutI_mono {x y : Int} (h : x ≤ y) : cutI x ≤ cutI y := by unfold cutI; omega
theorem cutI_max (x : Int) (h : x ≤ 9223372036854775807) : cutI x = max x (-9223372036854775807) := by unfold cutI; omega
theorem cutI_double (x : Int) : cutI (2 * cutI x) = cutI (2 * x) := by unfold cutI; omega
theorem cutI_double' (x y : Int) (h : cutI x = cutI y) : cutI (2 * x) = cutI (2 * y) := by rw [← cutI_double x, h, cutI_double]
/-- How far a number is from 0. -/
def sizeI (a : Int) : Int := if a < 0 then -a else a
theorem sizeI_neg {a : Int} (h : a < 0) : sizeI a = -a := by unfold sizeI; omega
theorem sizeI_pos {a : Int} (h : 0 ≤ a) : sizeI a = a := by unfold sizeI; omega
theorem sizeI_range (a : Int) (h : -9223372036854775808 ≤ a) (h' : a ≤ 9223372036854775807) : 0 ≤ sizeI a ∧ sizeI a ≤ 9223372036854775808 := by unfold sizeI; omega
/-- What cut tells of a sign, a size and whether there is a rest. -/
def signI (below : Bool) (x : Int) : Int := if below then -x else x
def restI (below : Bool) (n r : Int) : Int := if below then (if 0 < r then -n - 1 else -n) else n
theorem rest_div (below : Bool) (V d : Int) (hV : 0 ≤ V) (hd : 0 < d) : restI below (V / d) (V % d) = signI below V / d := by
  have h := Int.mul_ediv_add_emod V d
  have r0 := Int.emod_nonneg V (show d ≠ 0 by omega)
  have r1 := Int.emod_lt_of_pos V hd
  cases below
  · simp [restI, signI]
  · simp only [restI, signI, if_true]
    generalize V / d = q at *
    generalize V % d = r at *
    symm
    by_cases hr : 0 < r
    · rw [if_pos hr]
      have : -V = (d - r) + (-q - 1) * d := by rw [← h, Int.sub_mul, Int.neg_mul, Int.mul_comm q d]; omega
      rw [this, Int.add_mul_ediv_right _ _ (by omega), Int.ediv_eq_zero_of_lt (by omega) (by omega)]; omega
    · rw [if_neg hr]
      have : -V = (-q) * d := by rw [← h, Int.neg_mul, Int.mul_comm q d]; omega
      rw [this, Int.mul_ediv_cancel _ (by omega)]
/-- A number of 128 bits with a sign, by a divisor, rounded down and cut. -/
def shareI (below : Bool) (V d : Int) : Int := cutI (signI below V / d)
theorem share_large (below : Bool) (hi lo d : Int) (h0 : 0 ≤ lo) (hd : 0 < d) (h : d ≤ hi) : shareI below (hi * 18446744073709551616 + lo) d = cutI (signI below 18446744073709551615) := by
  unfold shareI
  have h1 : 18446744073709551616 ≤ (hi * 18446744073709551616 + lo) / d := by
    rw [Int.le_ediv_iff_mul_le hd]
    omega
  have h2 := rest_div true (hi * 18446744073709551616 + lo) d (by omega) hd
  cases below
  · simp only [signI]
    rw [cutI_high _ (by simp; omega), cutI_high _ (by simp)]
  · rw [← h2]
    simp only [restI, signI, if_true]
    rw [cutI_low _ (by split <;> omega), cutI_low _ (by omega)]
theorem most_down (x : Int) (h : x ≤ -9223372036854775807) : cutI (signI true 18446744073709551615) = cutI x := by rw [cutI_low x h]; rfl
theorem most_up (x : Int) (h : 9223372036854775807 ≤ x) : cutI (signI false 18446744073709551615) = cutI x := by rw [cutI_high x h]; rfl
def addI (a b : Int) : Int := cutI (a + b)
def subI (a b : Int) : Int := cutI (a - b)
def absI (a : Int) : Int := cutI (sizeI a)
def mulI (a b : Int) : Int := cutI (a * b / 4294967296)
def endI (a : Int) : Int := if a < 0 then -9223372036854775807 else if a = 0 then 0 else 9223372036854775807
def divI (a b : Int) : Int := if b = 0 then endI a else if 0 < b then cutI (a * 4294967296 / b) else cutI (-a * 4294967296 / -b)
def shiftI (a n : Int) : Int := if n < 0 then cutI (a / 2 ^ (min (-n) 1000).toNat) else cutI (a * 2 ^ (min n 1000).toNat)
def rootI (a : Int) : Int := if a ≤ 0 then 0 else (isq (a * 4294967296).toNat : Int)
def clampI (a low high : Int) : Int := cutI (if a < low then low else if high < a then high else a)
def meanI (l : List Int) : Int := if l.length = 0 then 0 else cutI (l.sum / (l.length : Int))
def rmsI (l : List Int) : Int := rootI (meanI (l.map fun x => mulI x x))
theorem signs_mul (a b : Int) : signI (decide (a < 0) != decide (b < 0)) (sizeI a * sizeI b) = a * b := by
  by_cases ha : a < 0 <;> by_cases hb : b < 0 <;> simp [signI, sizeI, ha, hb, Int.neg_mul, Int.mul_neg]
theorem mul_share (a b : Int) : shareI (decide (a < 0) != decide (b < 0)) (sizeI a * sizeI b) 4294967296 = mulI a b := by
  unfold shareI mulI; rw [signs_mul]
theorem div_share (a b : Int) (hb : b ≠ 0) : shareI (decide (a < 0) != decide (b < 0)) (sizeI a * 4294967296) (sizeI b) = divI a b := by
  unfold shareI divI
  rw [if_neg hb]
  by_cases ha : a < 0 <;> by_cases hb' : b < 0
  · have e : (decide (a < 0) != decide (b < 0)) = false := by simp [ha, hb']
    rw [e, sizeI_neg ha, sizeI_neg hb', if_neg (by omega)]; rfl
  · have e : (decide (a < 0) != decide (b < 0)) = true := by simp [ha, hb']
    rw [e, sizeI_neg ha, sizeI_pos (show 0 ≤ b by omega), if_pos (by omega)]
    show cutI (-(-a * 4294967296) / b) = _
    rw [show -(-a * 4294967296) = a * 4294967296 by omega]
  · have e : (decide (a < 0) != decide (b < 0)) = true := by simp [ha, hb']
    rw [e, sizeI_pos (show 0 ≤ a by omega), sizeI_neg hb', if_neg (by omega)]
    show cutI (-(a * 4294967296) / -b) = _
    rw [show -(a * 4294967296) = -a * 4294967296 by omega]
  · have e : (decide (a < 0) != decide (b < 0)) = false := by simp [ha, hb']
    rw [e, sizeI_pos (show 0 ≤ a by omega), sizeI_pos (show 0 ≤ b by omega), if_pos (by omega)]; rfl
theorem wide_mul (a b : Int) : mulH a b * 18446744073709551616 + mulL a b = a * b := by
  unfold mulH mulL; omega
theorem prod_range (a b : Int) (ha : 0 ≤ a) (ha' : a ≤ 9223372036854775808) (hb : 0 ≤ b) (hb' : b ≤ 9223372036854775808) : 0 ≤ a * b ∧ a * b ≤ 85070591730234615865843651857942052864 := by
  refine ⟨Int.mul_nonneg ha hb, ?_⟩
  have h1 : a * b ≤ 9223372036854775808 * b := Int.mul_le_mul_of_nonneg_right ha' hb
  omega
theorem mulH_range (a b : Int) (ha : 0 ≤ a) (ha' : a ≤ 9223372036854775808) (hb : 0 ≤ b) (hb' : b ≤ 9223372036854775808) : 0 ≤ mulH a b ∧ mulH a b ≤ 4611686018427387904 ∧ 0 ≤ mulL a b ∧ mulL a b < 18446744073709551616 := by
  have := prod_range a b ha ha' hb hb'
  unfold mulH mulL; omega
theorem logI_range (n : Int) (h : n < 18446744073709551616) : -1 ≤ logI n ∧ logI n ≤ 63 := by
  by_cases hn : 0 < n
  · obtain ⟨k, hk, hk1, hk2⟩ := logI_low n hn
    have : k ≤ 63 := by
      apply Nat.le_of_not_lt
      intro h64
      have : (2 : Int) ^ 64 ≤ 2 ^ k := by rw [pow_cast, pow_cast]; exact_mod_cast Nat.pow_le_pow_right (by decide) h64
      simp at this; omega
    omega
  · rw [logI_zero n (by omega)]; omega
/-- Roots. -/
theorem isq_mono {m n : Nat} (h : m ≤ n) : isq m ≤ isq n := (le_isq n _).mpr (Nat.le_trans (isq_spec m).1 h)
theorem rootI_nonneg (a : Int) : 0 ≤ rootI a := by unfold rootI; split <;> omega
theorem le_rootI (a t : Int) (h : 0 ≤ a) (ht : 0 ≤ t) : t ≤ rootI a ↔ t * t ≤ a * 4294967296 := by
  unfold rootI
  by_cases ha : a ≤ 0
  · have : a = 0 := by omega
    subst this
    simp
    constructor
    · intro h; have : t = 0 := by omega
      subst this; simp
    · intro h
      apply Int.le_of_not_gt
      intro hg
      have := Int.mul_pos hg hg
      omega
  · rw [if_neg ha]
    obtain ⟨n, rfl⟩ : ∃ n : Nat, t = n := ⟨t.toNat, by omega⟩
    have hm : (((a * 4294967296).toNat : Nat) : Int) = a * 4294967296 := Int.toNat_of_nonneg (by omega)
    rw [← hm]
    generalize (a * 4294967296).toNat = m
    rw [Int.ofNat_le, le_isq]
    constructor
    · intro h; exact_mod_cast h
    · intro h; exact_mod_cast h
theorem rootI_lt (a : Int) (h : a ≤ 9223372036854775807) : rootI a < 281474976710656 := by
  by_cases ha : a ≤ 0
  · unfold rootI; rw [if_pos ha]; omega
  · apply Int.lt_of_not_ge
    intro hg
    have := (le_rootI a 281474976710656 (by omega) (by omega)).mp hg
    omega
theorem rootI_mono {a b : Int} (h : a ≤ b) : rootI a ≤ rootI b := by
  by_cases ha : a ≤ 0
  · unfold rootI; rw [if_pos ha]; split <;> omega
  · have h1 := (le_rootI a (rootI a) (by omega) (rootI_nonneg a)).mp (Int.le_refl _)
    exact (le_rootI b (rootI a) (by omega) (rootI_nonneg a)).mpr (by omega)
theorem rootI_of (a t : Int) (h : 0 ≤ a) (ht : 0 ≤ t) (e : t * t = a * 4294967296) : rootI a = t := by
  have h1 := (le_rootI a t h ht).mpr (by omega)
  apply Int.le_antisymm _ h1
  apply Int.le_of_lt_add_one
  apply Int.lt_of_not_ge
  intro hg
  have h2 := (le_rootI a (t + 1) h (by omega)).mp hg
  rw [Int.add_mul, Int.mul_add] at h2
  omega
theorem root_wide (a hi lo : Int) (e : hi * 18446744073709551616 + lo = max a 0 * 4294967296) : sqrtI hi lo = rootI a := by
  unfold sqrtI rootI
  rw [e]
  by_cases ha : a ≤ 0
  · rw [if_pos ha, Int.max_eq_right ha]; rfl
  · rw [if_neg ha, Int.max_eq_left (by omega)]
theorem logI_mono {a b : Int} (h : a ≤ b) : logI a ≤ logI b := by
  by_cases ha : 0 < a
  · obtain ⟨k, hk, hk1, hk2⟩ := logI_low a ha
    obtain ⟨m, hm, hm1, hm2⟩ := logI_low b (by omega)
    rw [hk, hm]
    apply Int.ofNat_le.mpr
    apply Nat.le_of_not_lt
    intro hlt
    have : (2 : Int) ^ (m + 1) ≤ 2 ^ k := by rw [pow_cast, pow_cast]; exact_mod_cast Nat.pow_le_pow_right (by decide) hlt
    omega
  · rw [logI_zero a (by omega)]
    by_cases hb : 0 < b
    · obtain ⟨m, hm, hm1, hm2⟩ := logI_low b hb
      omega
    · rw [logI_zero b (by omega)]; omega
theorem logI_max (a : Int) : logI (max a 0) = logI a := by
  by_cases ha : 0 < a
  · rw [Int.max_eq_left (by omega)]
  · rw [Int.max_eq_right (by omega), logI_zero a (by omega), logI_zero 0 (by omega)]
theorem logI_second : logI 4294967296 = 32 := logI_of 4294967296 (by decide) 33 (by decide) (fun j h => by
    have : j = 32 := by omega
    subst this
    decide)
theorem sign_size (a : Int) : signI (decide (a < 0)) (sizeI a) = a := by
  by_cases h : a < 0 <;> simp [signI, sizeI, h]
theorem pow_min (j : Nat) : (2 : Int) ^ min j 64 ≤ 2 ^ j := by
  rw [pow_cast, pow_cast]; exact_mod_cast Nat.pow_le_pow_right (by decide) (Nat.min_le_left _ _)
theorem big_div (a d : Int) (ha : -9223372036854775808 ≤ a) (ha' : a ≤ 9223372036854775807) (hd : 18446744073709551616 ≤ d) : a / d = if a < 0 then -1 else 0 := by
  by_cases h : a < 0
  · rw [if_pos h]
    have : a = (a + d) + (-1) * d := by omega
    rw [this, Int.add_mul_ediv_right _ _ (by omega), Int.ediv_eq_zero_of_lt (by omega) (by omega)]; rfl
  · rw [if_neg h, Int.ediv_eq_zero_of_lt (by omega) (by omega)]
theorem pow_big (j : Nat) (h : 64 ≤ j) : (18446744073709551616 : Int) ≤ 2 ^ j := by
  have : (2 : Int) ^ 64 ≤ 2 ^ j := by rw [pow_cast, pow_cast]; exact_mod_cast Nat.pow_le_pow_right (by decide) h
  simpa using this
theorem shift_far (a : Int) (j : Nat) (ha : -9223372036854775808 ≤ a) (ha' : a ≤ 9223372036854775807) : a / 2 ^ min j 64 = a / 2 ^ j := by
  by_cases h : j ≤ 64
  · rw [Nat.min_eq_left h]
  · rw [Nat.min_eq_right (by omega), big_div a _ ha ha' (pow_big j (by omega)), big_div a _ ha ha' (by decide)]
theorem shift_down (a : Int) (j : Nat) (x : Bool) (hx : decide (a < 0) = x) (ha : -9223372036854775808 ≤ a) (ha' : a ≤ 9223372036854775807) :
    0 ≤ sizeI a / 2 ^ min j 64 ∧ sizeI a / 2 ^ min j 64 ≤ sizeI a ∧ 0 ≤ sizeI a - sizeI a / 2 ^ min j 64 * 2 ^ min j 64 ∧ sizeI a - sizeI a / 2 ^ min j 64 * 2 ^ min j 64 ≤ sizeI a ∧ 0 ≤ sizeI a / 2 ^ min j 64 * 2 ^ min j 64 ∧ sizeI a / 2 ^ min j 64 * 2 ^ min j 64 ≤ sizeI a ∧
    cutI (restI x (sizeI a / 2 ^ min j 64) (sizeI a - sizeI a / 2 ^ min j 64 * 2 ^ min j 64)) = cutI (a / 2 ^ j) := by
  obtain ⟨s0, s1⟩ := sizeI_range a ha ha'
  have hp := pow_pos2 (min j 64)
  have h := Int.mul_ediv_add_emod (sizeI a) (2 ^ min j 64)
  have q0 : 0 ≤ sizeI a / 2 ^ min j 64 := Int.ediv_nonneg s0 (by omega)
  have q1 : sizeI a / 2 ^ min j 64 ≤ sizeI a := Int.ediv_le_self _ s0
  have r0 := Int.emod_nonneg (sizeI a) (show (2 : Int) ^ min j 64 ≠ 0 by omega)
  have qp : 0 ≤ sizeI a / 2 ^ min j 64 * 2 ^ min j 64 := Int.mul_nonneg q0 (by omega)
  rw [Int.mul_comm] at h
  have e : sizeI a - sizeI a / 2 ^ min j 64 * 2 ^ min j 64 = sizeI a % 2 ^ min j 64 := by omega
  refine ⟨q0, q1, by omega, by omega, qp, by omega, ?_⟩
  rw [e, rest_div _ _ _ s0 hp, ← hx, sign_size, shift_far a j ha ha']
theorem shift_over (a : Int) (j : Nat) (x : Bool) (hx : decide (a < 0) = x) (ha : -9223372036854775808 ≤ a) (ha' : a ≤ 9223372036854775807) (h : 9223372036854775807 / 2 ^ min j 64 < sizeI a) : cutI (signI x 18446744073709551615) = cutI (a * 2 ^ j) := by
  have hp := pow_pos2 (min j 64)
  have h1 : 9223372036854775807 < sizeI a * 2 ^ min j 64 := (Int.ediv_lt_iff_lt_mul hp).mp h
  have h3 : 0 < sizeI a := by
    have : 0 ≤ (9223372036854775807 : Int) / 2 ^ min j 64 := Int.ediv_nonneg (by decide) (by omega)
    omega
  have h2 : sizeI a * 2 ^ min j 64 ≤ sizeI a * 2 ^ j := Int.mul_le_mul_of_nonneg_left (pow_min j) (by omega)
  subst hx
  by_cases hn : a < 0
  · rw [sizeI_neg hn] at h1 h2
    simp only [Int.neg_mul] at h1 h2
    rw [show decide (a < 0) = true by simpa using hn]
    exact most_down _ (by omega)
  · rw [sizeI_pos (by omega)] at h1 h2
    rw [show decide (a < 0) = false by simpa using hn]
    exact most_up _ (by omega)
theorem shift_up (a : Int) (j : Nat) (x : Bool) (hx : decide (a < 0) = x) (ha : -9223372036854775808 ≤ a) (ha' : a ≤ 9223372036854775807) (h : sizeI a ≤ 9223372036854775807 / 2 ^ min j 64) :
    0 ≤ sizeI a * 2 ^ min j 64 ∧ sizeI a * 2 ^ min j 64 ≤ 9223372036854775807 ∧ cutI (restI x (sizeI a * 2 ^ min j 64) 0) = cutI (a * 2 ^ j) := by
  obtain ⟨s0, s1⟩ := sizeI_range a ha ha'
  have hp := pow_pos2 (min j 64)
  have h1 : sizeI a * 2 ^ min j 64 ≤ 9223372036854775807 := (Int.le_ediv_iff_mul_le hp).mp h
  refine ⟨Int.mul_nonneg s0 (by omega), h1, ?_⟩
  have e : a * 2 ^ min j 64 = a * 2 ^ j := by
    by_cases hj : j ≤ 64
    · rw [Nat.min_eq_left hj]
    · rw [Nat.min_eq_right (by omega)] at h1
      have : sizeI a = 0 := by omega
      have : a = 0 := by unfold sizeI at this; omega
      rw [this]; simp
  have e2 : restI x (sizeI a * 2 ^ min j 64) 0 = a * 2 ^ min j 64 := by
    subst hx
    by_cases hn : a < 0 <;> simp [restI, sizeI, hn, Int.neg_mul]
  rw [e2, e]
theorem or_halves (h l : Int) (h0 : 0 ≤ h) (h1 : h < 4294967296) (l0 : 0 ≤ l) (l1 : l < 4294967296) : bits .or .u64 (h * 4294967296) l = h * 4294967296 + l := by
  obtain ⟨n, rfl⟩ := Int.eq_ofNat_of_zero_le h0
  obtain ⟨m, rfl⟩ := Int.eq_ofNat_of_zero_le l0
  have e := Nat.two_pow_add_eq_or_of_lt (b := m) (i := 32) (by omega) n
  have e2 : ((n : Int) * 4294967296) = ((2 ^ 32 * n : Nat) : Int) := by omega
  rw [e2, bits_or_u64_nat _ _ (by omega) (by omega), ← e]; omega
def isB (b : Bool) : Int := if b then 1 else 0
theorem rest_isB (x : Bool) (n r : Int) (b : Bool) (h : b = decide (0 < r)) : restI x n (isB b) = restI x n r := by
  subst h
  by_cases hr : 0 < r <;> simp [restI, isB, hr]
theorem share_over (x : Bool) (V d : Int) (hd : 0 < d) (h : d * 9223372036854775808 ≤ V) : cutI (restI x 9223372036854775808 (isB false)) = shareI x V d := by
  unfold shareI
  have h1 : 9223372036854775808 ≤ V / d := by
    rw [Int.le_ediv_iff_mul_le hd]
    rw [Int.mul_comm]; exact h
  have h2 := rest_div x V d (by omega) hd
  rw [← h2]
  cases x
  · simp only [restI, Bool.false_eq_true, if_false]
    rw [cutI_high _ (by omega), cutI_high _ (by omega)]
  · simp only [restI, isB, if_true, Bool.false_eq_true, if_false]
    rw [cutI_low _ (by split <;> omega), cutI_low _ (by split <;> omega)]
theorem share_in (x : Bool) (V d q r : Int) (b : Bool) (hV : 0 ≤ V) (hd : 0 < d) (hq : q = V / d) (hr : r = V % d) (hb : b = decide (0 < r)) : cutI (restI x q (isB b)) = shareI x V d := by
  rw [rest_isB x q r b hb, hq, hr, rest_div x V d hV hd]; rfl
theorem div_next (a : Int) (t : Nat) : a / 2 ^ (t + 1) = a / 2 ^ t / 2 := by
  rw [Int.pow_succ, Int.ediv_ediv_of_nonneg (Int.le_of_lt (pow_pos2 t))]
theorem div_stays (a c : Int) (t k : Nat) (h : c = a / 2 ^ t) (hk : t ≤ k) (hc : c = 0 ∨ c = -1) : a / 2 ^ k = c := by
  obtain ⟨d, rfl⟩ : ∃ d, k = t + d := ⟨k - t, by omega⟩
  induction d with
  | zero => exact h.symm
  | succ d ih =>
    have := ih (by omega)
    rw [show t + (d + 1) = (t + d) + 1 by omega, div_next, this]
    omega
theorem mul_next (a : Int) (t : Nat) : a * 2 ^ (t + 1) = 2 * (a * 2 ^ t) := by
  rw [Int.pow_succ, ← Int.mul_assoc, Int.mul_comm 2]
/-- A number of which a sum with itself was cut, some steps on. -/
theorem twice_next (v a : Int) (t : Nat) (h : cutI v = cutI (a * 2 ^ t)) : cutI (addI v v) = cutI (a * 2 ^ (t + 1)) := by
  unfold addI
  rw [mul_next, show v + v = 2 * v by omega, ← cutI_double v, h, cutI_double]
  exact cutI_in _ (cutI_range _).1 (cutI_range _).2
theorem twice_stays (a : Int) (t k : Nat) (h : cutI 0 = cutI (a * 2 ^ t)) : cutI (a * 2 ^ k) = 0 := by
  have h0 : cutI 0 = 0 := rfl
  rw [h0] at h
  have h1 : a * 2 ^ t = 0 := by unfold cutI at h; omega
  have hp := pow_pos2 t
  rcases Int.mul_eq_zero.mp h1 with h2 | h2
  · subst h2; rw [Int.zero_mul]; rfl
  · omega
/-- Both halves of a number of 128 bits with its sign as two's complement. -/
def sumH (S : Int) : Int := S / 18446744073709551616 % 18446744073709551616
def sumL (S : Int) : Int := S % 18446744073709551616
theorem sum_range (S : Int) : 0 ≤ sumH S ∧ sumH S < 18446744073709551616 ∧ 0 ≤ sumL S ∧ sumL S < 18446744073709551616 := by unfold sumH sumL; omega
theorem sum_plus_pos (S x : Int) (h : 0 ≤ x) (h' : x < 9223372036854775808) : plusH (sumH S) (sumL S) 0 x = sumH (S + x) ∧ plusL (sumL S) x = sumL (S + x) := by
  unfold plusH plusL sumH sumL; omega
theorem sum_plus_neg (S x : Int) (h : x < 0) (h' : -9223372036854775808 ≤ x) : plusH (sumH S) (sumL S) 18446744073709551615 (x + 18446744073709551616) = sumH (S + x) ∧ plusL (sumL S) (x + 18446744073709551616) = sumL (S + x) := by
  unfold plusH plusL sumH sumL; omega
theorem sum_pos (S : Int) (h : 0 ≤ S) (h' : S < 170141183460469231731687303715884105728) : sumH S * 18446744073709551616 + sumL S = S ∧ sumH S / 9223372036854775808 = 0 := by
  unfold sumH sumL; omega
theorem sum_neg (S : Int) (h : S < 0) (h' : -170141183460469231731687303715884105728 ≤ S) : sumH S / 9223372036854775808 = 1 ∧
    plusH (18446744073709551615 - sumH S) (18446744073709551615 - sumL S) 0 1 * 18446744073709551616 + plusL (18446744073709551615 - sumL S) 1 = -S := by
  unfold sumH sumL plusH plusL; omega
theorem addI_mono {a b : Int} (c : Int) (h : a ≤ b) : addI a c ≤ addI b c := cutI_mono (by omega)
theorem subI_mono {a b : Int} (c : Int) (h : a ≤ b) : subI a c ≤ subI b c := cutI_mono (by omega)
theorem shiftI_mono {a b : Int} (n : Int) (h : a ≤ b) : shiftI a n ≤ shiftI b n := by
  unfold shiftI
  split
  · exact cutI_mono (Int.ediv_le_ediv (pow_pos2 _) h)
  · exact cutI_mono (Int.mul_le_mul_of_nonneg_right h (Int.le_of_lt (pow_pos2 _)))
theorem mulI_mono {a b : Int} (c : Int) (hc : 0 ≤ c) (h : a ≤ b) : mulI a c ≤ mulI b c :=
  cutI_mono (Int.ediv_le_ediv (by decide) (Int.mul_le_mul_of_nonneg_right h hc))
theorem divI_mono {a b : Int} (c : Int) (hc : 0 < c) (h : a ≤ b) : divI a c ≤ divI b c := by
  unfold divI
  have hz : ¬ c = 0 := by omega
  simp only [hz, hc, if_true, if_false]
  exact cutI_mono (Int.ediv_le_ediv hc (by omega))
theorem divI_range (a b : Int) : -9223372036854775807 ≤ divI a b ∧ divI a b ≤ 9223372036854775807 := by
  unfold divI endI
  split
  · split
    · omega
    · split <;> omega
  · split <;> exact cutI_range _
theorem shiftI_range (a n : Int) : -9223372036854775807 ≤ shiftI a n ∧ shiftI a n ≤ 9223372036854775807 := by
  unfold shiftI; split <;> exact cutI_range _
end Go.Proofs.Ytlnoclffgmcgoaa.W
