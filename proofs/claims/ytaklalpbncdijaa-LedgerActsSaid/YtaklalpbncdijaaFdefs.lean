/- Plain functions on whole numbers that the walks of layer 2 speak of; nothing of the program is imported. -/
import Derived.Test.YtaklalpbncdijaaWlog
import Derived.Test.YtaklalpbncdijaaWdiv
namespace Go.Proofs.Ytaklalpbncdijaa.W
open Go.RowKit
set_option linter.unusedVariables false
/-- A number, cut. -/
def cutI (x : Int) : Int := if x < -9223372036854775807 then -9223372036854775807 else if 9223372036854775807 < x then 9223372036854775807 else x
theorem cutI_in (x : Int) (h : -9223372036854775807 ≤ x) (h' : x ≤ 9223372036854775807) : cutI x = x := by unfold cutI; omega
theorem cutI_high (x : Int) (h : 9223372036854775807 ≤ x) : cutI x = 9223372036854775807 := by unfold cutI; omega
theorem cutI_low (x : Int) (h : x ≤ -9223372036854775807) : cutI x = -9223372036854775807 := by unfold cutI; omega
theorem cutI_range (x : Int) : -9223372036854775807 ≤ cutI x ∧ cutI x ≤ 9223372036854775807 := by unfold cutI; omega
/-- How far a number is from 0. -/
def sizeI (a : Int) : Int := if a < 0 then -a else a
theorem sizeI_range (a : Int) (h : -9223372036854775808 ≤ a) (h' : a ≤ 9223372036854775807) : 0 ≤ sizeI a ∧ sizeI a ≤ 9223372036854775808 := by unfold sizeI; omega
/-- What cut tells of a sign, a size and whether there is a rest. -/
def signI (below : Bool) (x : Int) : Int := if below then -x else x
def restI (below : Bool) (n r : Int) : Int := if below then (if 0 < r then -n - 1 else -n) else n
theorem rest_div (below : Bool) (V d : Int) (hV : 0 ≤ V) (hd : 0 < d) : restI below (V / d) (V % d) = signI below V / d := by
  have h := Int.mul_ediv_add_emod V d
  have r0 := Int.emod_nonneg V (show d ≠ 0 by omega)
  have r1 := Int.emod_lt_of_pos V hd
  cases below
  · simp [restI, signI]
  · simp only [restI, signI, if_true]
    generalize V / d = q at *
    generalize V % d = r at *
    symm
    by_cases hr : 0 < r
    · rw [if_pos hr]
      have : -V = (d - r) + (-q - 1) * d := by rw [← h, Int.sub_mul, Int.neg_mul, Int.mul_comm q d]; omega
      rw [this, Int.add_mul_ediv_right _ _ (by omega), Int.ediv_eq_zero_of_lt (by omega) (by omega)]; omega
    · rw [if_neg hr]
      have : -V = (-q) * d := by rw [← h, Int.neg_mul, Int.mul_comm q d]; omega
      rw [this, Int.mul_ediv_cancel _ (by omega)]
/-- A number of 128 bits with a sign, by a divisor, rounded down and cut. -/
def shareI (below : Bool) (V d : Int) : Int := cutI (signI below V / d)
theorem share_large (below : Bool) (hi lo d : Int) (h0 : 0 ≤ lo) (hd : 0 < d) (h : d ≤ hi) : shareI below (hi * 18446744073709551616 + lo) d = cutI (signI below 18446744073709551615) := by
  unfold shareI
  have h1 : 18446744073709551616 ≤ (hi * 18446744073709551616 + lo) / d := by
    rw [Int.le_ediv_iff_mul_le hd]
    omega
  have h2 := rest_div true (hi * 18446744073709551616 + lo) d (by omega) hd
  cases below
  · simp only [signI]
    rw [cutI_high _ (by simp; omega), cutI_high _ (by simp)]
  · rw [← h2]
    simp only [restI, signI, if_true]
    rw [cutI_low _ (by split <;> omega), cutI_low _ (by omega)]
theorem most_down (x : Int) (h : x ≤ -9223372036854775807) : cutI (signI true 18446744073709551615) = cutI x := by rw [cutI_low x h]; rfl
theorem most_up (x : Int) (h : 9223372036854775807 ≤ x) : cutI (signI false 18446744073709551615) = cutI x := by rw [cutI_high x h]; rfl
def addI (a b : Int) : Int := cutI (a + b)
def subI (a b : Int) : Int := cutI (a - b)
def mulI (a b : Int) : Int := cutI (a * b / 4294967296)
def clampI (a low high : Int) : Int := cutI (if a < low then low else if high < a then high else a)
theorem signs_mul (a b : Int) : signI (decide (a < 0) != decide (b < 0)) (sizeI a * sizeI b) = a * b := by
  by_cases ha : a < 0 <;> by_cases hb : b < 0 <;> simp [signI, sizeI, ha, hb, Int.neg_mul, Int.mul_neg]
theorem mul_share (a b : Int) : shareI (decide (a < 0) != decide (b < 0)) (sizeI a * sizeI b) 4294967296 = mulI a b := by
  unfold shareI mulI; rw [signs_mul]
theorem wide_mul (a b : Int) : mulH a b * 18446744073709551616 + mulL a b = a * b := by
  unfold mulH mulL; omega
theorem prod_range (a b : Int) (ha : 0 ≤ a) (ha' : a ≤ 9223372036854775808) (hb : 0 ≤ b) (hb' : b ≤ 9223372036854775808) : 0 ≤ a * b ∧ a * b ≤ 85070591730234615865843651857942052864 := by
  refine ⟨Int.mul_nonneg ha hb, ?_⟩
  have h1 : a * b ≤ 9223372036854775808 * b := Int.mul_le_mul_of_nonneg_right ha' hb
  omega
theorem mulH_range (a b : Int) (ha : 0 ≤ a) (ha' : a ≤ 9223372036854775808) (hb : 0 ≤ b) (hb' : b ≤ 9223372036854775808) : 0 ≤ mulH a b ∧ mulH a b ≤ 4611686018427387904 ∧ 0 ≤ mulL a b ∧ mulL a b < 18446744073709551616 := by
  have := prod_range a b ha ha' hb hb'
  unfold mulH mulL; omega
theorem or_halves (h l : Int) (h0 : 0 ≤ h) (h1 : h < 4294967296) (l0 : 0 ≤ l) (l1 : l < 4294967296) : bits .or .u64 (h * 4294967296) l = h * 4294967296 + l := by
  obtain ⟨n, rfl⟩ := Int.eq_ofNat_of_zero_le h0
  obtain ⟨m, rfl⟩ := Int.eq_ofNat_of_zero_le l0
  have e := Nat.two_pow_add_eq_or_of_lt (b := m) (i := 32) (by omega) n
  have e2 : ((n : Int) * 4294967296) = ((2 ^ 32 * n : Nat) : Int) := by omega
  rw [e2, bits_or_u64_nat _ _ (by omega) (by omega), ← e]; omega
def isB (b : Bool) : Int := if b then 1 else 0
theorem rest_isB (x : Bool) (n r : Int) (b : Bool) (h : b = decide (0 < r)) : restI x n (isB b) = restI x n r := by
  subst h
  by_cases hr : 0 < r <;> simp [restI, isB, hr]
theorem share_over (x : Bool) (V d : Int) (hd : 0 < d) (h : d * 9223372036854775808 ≤ V) : cutI (restI x 9223372036854775808 (isB false)) = shareI x V d := by
  unfold shareI
  have h1 : 9223372036854775808 ≤ V / d := by
    rw [Int.le_ediv_iff_mul_le hd]
    rw [Int.mul_comm]; exact h
  have h2 := rest_div x V d (by omega) hd
  rw [← h2]
  cases x
  · simp only [restI, Bool.false_eq_true, if_false]
    rw [cutI_high _ (by omega), cutI_high _ (by omega)]
  · simp only [restI, isB, if_true, Bool.false_eq_true, if_false]
    rw [cutI_low _ (by split <;> omega), cutI_low _ (by split <;> omega)]
theorem share_in (x : Bool) (V d q r : Int) (b : Bool) (hV : 0 ≤ V) (hd : 0 < d) (hq : q = V / d) (hr : r = V % d) (hb : b = decide (0 < r)) : cutI (restI x q (isB b)) = shareI x V d := by
  rw [rest_isB x q r b hb, hq, hr, rest_div x V d hV hd]; rfl
end Go.Proofs.Ytaklalpbncdijaa.W
