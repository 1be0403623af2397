import Derived.Test.YtjelbpibofngiaaWdefs
import Derived.Laws.Bits64b
import Derived.IntWalk
/- Plain facts: how many bits a number has, and a whole root. -/
open Go.RowKit
namespace Go.Proofs.Ytjelbpibofngiaa.W
theorem pow_cast (k : Nat) : ((2 : Int) ^ k) = ((2 ^ k : Nat) : Int) := by simp
theorem pow_pos2 (k : Nat) : (0 : Int) < 2 ^ k := by rw [pow_cast]; exact_mod_cast Nat.two_pow_pos k
end Go.Proofs.Ytjelbpibofngiaa.W

/- Plain functions on whole numbers that the walks of layer 2 speak of; nothing of the program is imported. -/
namespace Go.Proofs.Ytjelbpibofngiaa.W
open Go.RowKit
set_option linter.unusedVariables false
/-- A number, cut. -/
def cutI (x : Int) : Int := if x < -9223372036854775807 then -9223372036854775807 else if 9223372036854775807 < x then 9223372036854775807 else x
theorem cutI_high (x : Int) (h : 9223372036854775807 ≤ x) : cutI x = 9223372036854775807 := by unfold cutI; omega
theorem cutI_low (x : Int) (h : x ≤ -9223372036854775807) : cutI x = -9223372036854775807 := by unfold cutI; omega
/-- How far a number is from 0. -/
def sizeI (a : Int) : Int := if a < 0 then -a else a
theorem sizeI_neg {a : Int} (h : a < 0) : sizeI a = -a := by unfold sizeI; omega
theorem sizeI_pos {a : Int} (h : 0 ≤ a) : sizeI a = a := by unfold sizeI; omega
theorem sizeI_range (a : Int) (h : -9223372036854775808 ≤ a) (h' : a ≤ 9223372036854775807) : 0 ≤ sizeI a ∧ sizeI a ≤ 9223372036854775808 := by unfold sizeI; omega
/-- What cut tells of a sign, a size and whether there is a rest. -/
def signI (below : Bool) (x : Int) : Int := if below then -x else x
def restI (below : Bool) (n r : Int) : Int := if below then (if 0 < r then -n - 1 else -n) else n
theorem rest_div (below : Bool) (V d : Int) (hV : 0 ≤ V) (hd : 0 < d) : restI below (V / d) (V % d) = signI below V / d := by
  have h := Int.mul_ediv_add_emod V d
  have r0 := Int.emod_nonneg V (show d ≠ 0 by omega)
  have r1 := Int.emod_lt_of_pos V hd
  cases below
  · simp [restI, signI]
  · simp only [restI, signI, if_true]
    generalize V / d = q at *
    generalize V % d = r at *
    symm
    by_cases hr : 0 < r
    · rw [if_pos hr]
      have : -V = (d - r) + (-q - 1) * d := by rw [← h, Int.sub_mul, Int.neg_mul, Int.mul_comm q d]; omega
      rw [this, Int.add_mul_ediv_right _ _ (by omega), Int.ediv_eq_zero_of_lt (by omega) (by omega)]; omega
    · rw [if_neg hr]
      have : -V = (-q) * d := by rw [← h, Int.neg_mul, Int.mul_comm q d]; omega
      rw [this, Int.mul_ediv_cancel _ (by omega)]
theorem most_down (x : Int) (h : x ≤ -9223372036854775807) : cutI (signI true 18446744073709551615) = cutI x := by rw [cutI_low x h]; rfl
theorem most_up (x : Int) (h : 9223372036854775807 ≤ x) : cutI (signI false 18446744073709551615) = cutI x := by rw [cutI_high x h]; rfl
def addI (a b : Int) : Int := cutI (a + b)
def shiftI (a n : Int) : Int := if n < 0 then cutI (a / 2 ^ (min (-n) 1000).toNat) else cutI (a * 2 ^ (min n 1000).toNat)
theorem sign_size (a : Int) : signI (decide (a < 0)) (sizeI a) = a := by
  by_cases h : a < 0 <;> simp [signI, sizeI, h]
theorem pow_min (j : Nat) : (2 : Int) ^ min j 64 ≤ 2 ^ j := by
  rw [pow_cast, pow_cast]; exact_mod_cast Nat.pow_le_pow_right (by decide) (Nat.min_le_left _ _)
theorem big_div (a d : Int) (ha : -9223372036854775808 ≤ a) (ha' : a ≤ 9223372036854775807) (hd : 18446744073709551616 ≤ d) : a / d = if a < 0 then -1 else 0 := by
  by_cases h : a < 0
  · rw [if_pos h]
    have : a = (a + d) + (-1) * d := by omega
    rw [this, Int.add_mul_ediv_right _ _ (by omega), Int.ediv_eq_zero_of_lt (by omega) (by omega)]; rfl
  · rw [if_neg h, Int.ediv_eq_zero_of_lt (by omega) (by omega)]
theorem pow_big (j : Nat) (h : 64 ≤ j) : (18446744073709551616 : Int) ≤ 2 ^ j := by
  have : (2 : Int) ^ 64 ≤ 2 ^ j := by rw [pow_cast, pow_cast]; exact_mod_cast Nat.pow_le_pow_right (by decide) h
  simpa using this
theorem shift_far (a : Int) (j : Nat) (ha : -9223372036854775808 ≤ a) (ha' : a ≤ 9223372036854775807) : a / 2 ^ min j 64 = a / 2 ^ j := by
  by_cases h : j ≤ 64
  · rw [Nat.min_eq_left h]
  · rw [Nat.min_eq_right (by omega), big_div a _ ha ha' (pow_big j (by omega)), big_div a _ ha ha' (by decide)]
theorem shift_down (a : Int) (j : Nat) (x : Bool) (hx : decide (a < 0) = x) (ha : -9223372036854775808 ≤ a) (ha' : a ≤ 9223372036854775807) :
    0 ≤ sizeI a / 2 ^ min j 64 ∧ sizeI a / 2 ^ min j 64 ≤ sizeI a ∧ 0 ≤ sizeI a - sizeI a / 2 ^ min j 64 * 2 ^ min j 64 ∧ sizeI a - sizeI a / 2 ^ min j 64 * 2 ^ min j 64 ≤ sizeI a ∧ 0 ≤ sizeI a / 2 ^ min j 64 * 2 ^ min j 64 ∧ sizeI a / 2 ^ min j 64 * 2 ^ min j 64 ≤ sizeI a ∧
    cutI (restI x (sizeI a / 2 ^ min j 64) (sizeI a - sizeI a / 2 ^ min j 64 * 2 ^ min j 64)) = cutI (a / 2 ^ j) := by
  obtain ⟨s0, s1⟩ := sizeI_range a ha ha'
  have hp := pow_pos2 (min j 64)
  have h := Int.mul_ediv_add_emod (sizeI a) (2 ^ min j 64)
  have q0 : 0 ≤ sizeI a / 2 ^ min j 64 := Int.ediv_nonneg s0 (by omega)
  have q1 : sizeI a / 2 ^ min j 64 ≤ sizeI a := Int.ediv_le_self _ s0
  have r0 := Int.emod_nonneg (sizeI a) (show (2 : Int) ^ min j 64 ≠ 0 by omega)
  have qp : 0 ≤ sizeI a / 2 ^ min j 64 * 2 ^ min j 64 := Int.mul_nonneg q0 (by omega)
  rw [Int.mul_comm] at h
  have e : sizeI a - sizeI a / 2 ^ min j 64 * 2 ^ min j 64 = sizeI a % 2 ^ min j 64 := by omega
  refine ⟨q0, q1, by omega, by omega, qp, by omega, ?_⟩
  rw [e, rest_div _ _ _ s0 hp, ← hx, sign_size, shift_far a j ha ha']
theorem shift_over (a : Int) (j : Nat) (x : Bool) (hx : decide (a < 0) = x) (ha : -9223372036854775808 ≤ a) (ha' : a ≤ 9223372036854775807) (h : 9223372036854775807 / 2 ^ min j 64 < sizeI a) : cutI (signI x 18446744073709551615) = cutI (a * 2 ^ j) := by
  have hp := pow_pos2 (min j 64)
  have h1 : 9223372036854775807 < sizeI a * 2 ^ min j 64 := (Int.ediv_lt_iff_lt_mul hp).mp h
  have h3 : 0 < sizeI a := by
    have : 0 ≤ (9223372036854775807 : Int) / 2 ^ min j 64 := Int.ediv_nonneg (by decide) (by omega)
    omega
  have h2 : sizeI a * 2 ^ min j 64 ≤ sizeI a * 2 ^ j := Int.mul_le_mul_of_nonneg_left (pow_min j) (by omega)
  subst hx
  by_cases hn : a < 0
  · rw [sizeI_neg hn] at h1 h2
    simp only [Int.neg_mul] at h1 h2
    rw [show decide (a < 0) = true by simpa using hn]
    exact most_down _ (by omega)
  · rw [sizeI_pos (by omega)] at h1 h2
    rw [show decide (a < 0) = false by simpa using hn]
    exact most_up _ (by omega)
theorem shift_up (a : Int) (j : Nat) (x : Bool) (hx : decide (a < 0) = x) (ha : -9223372036854775808 ≤ a) (ha' : a ≤ 9223372036854775807) (h : sizeI a ≤ 9223372036854775807 / 2 ^ min j 64) :
    0 ≤ sizeI a * 2 ^ min j 64 ∧ sizeI a * 2 ^ min j 64 ≤ 9223372036854775807 ∧ cutI (restI x (sizeI a * 2 ^ min j 64) 0) = cutI (a * 2 ^ j) := by
  obtain ⟨s0, s1⟩ := sizeI_range a ha ha'
  have hp := pow_pos2 (min j 64)
  have h1 : sizeI a * 2 ^ min j 64 ≤ 9223372036854775807 := (Int.le_ediv_iff_mul_le hp).mp h
  refine ⟨Int.mul_nonneg s0 (by omega), h1, ?_⟩
  have e : a * 2 ^ min j 64 = a * 2 ^ j := by
    by_cases hj : j ≤ 64
    · rw [Nat.min_eq_left hj]
    · rw [Nat.min_eq_right (by omega)] at h1
      have : sizeI a = 0 := by omega
      have : a = 0 := by unfold sizeI at this; omega
      rw [this]; simp
  have e2 : restI x (sizeI a * 2 ^ min j 64) 0 = a * 2 ^ min j 64 := by
    subst hx
    by_cases hn : a < 0 <;> simp [restI, sizeI, hn, Int.neg_mul]
  rw [e2, e]
end Go.Proofs.Ytjelbpibofngiaa.W

