/- Layer 19 as numbers: what is smoothed, turned, slewed. No program in it. -/
import Derived.Test.YtlidlmgmijndcaaGreatLpA
namespace Go.Proofs.YtlidlmgmijndcaaGreat.W
open Go.RowKit
set_option linter.unusedVariables false
theorem shift_dn19 (a : Int) (k : Nat) (hk : 0 < k) (hk' : k ≤ 1000) : shiftI a (-(k : Int)) = cutI (a / 2 ^ k) := by
  unfold shiftI
  rw [if_pos (by omega), show (min (-(-(k : Int))) 1000).toNat = k by omega]
theorem mul_self_in {a : Int} (ha : 0 ≤ a ∧ a < 1099511627776) : mulI a a = a * a / 4294967296 ∧ 0 ≤ a * a ∧ a * a < 1208925819614629174706176 := by
  have h0 : 0 ≤ a * a := Int.mul_nonneg ha.1 ha.1
  have h1 : a * a < 1208925819614629174706176 := by
    have := Int.mul_le_mul (show a ≤ 1099511627775 by omega) (show a ≤ 1099511627775 by omega) ha.1 (by decide)
    omega
  refine ⟨?_, h0, h1⟩
  unfold mulI
  exact cutI_in _ (by omega) (by omega)
/-- What is smoothed lies between both. -/
theorem smooth_in {a b : Int} (ha : 0 ≤ a ∧ a < 1099511627776) (hb : 0 ≤ b ∧ b < 1099511627776) : 0 ≤ smoothL a b ∧ smoothL a b ≤ max a b := by
  obtain ⟨ea, a0, a1⟩ := mul_self_in ha
  obtain ⟨eb, b0, b1⟩ := mul_self_in hb
  obtain ⟨M, hM⟩ : ∃ M, max a b = M := ⟨_, rfl⟩
  have haM : a * a ≤ M * M := Int.mul_le_mul (by omega) (by omega) ha.1 (by omega)
  have hbM : b * b ≤ M * M := Int.mul_le_mul (by omega) (by omega) hb.1 (by omega)
  have hM0 : 0 ≤ M := by omega
  rw [hM]
  unfold smoothL
  refine ⟨rootI_nonneg _, ?_⟩
  rw [ea, eb]
  generalize a * a = A at *
  generalize b * b = B at *
  have e1 : subI (B / 4294967296) (A / 4294967296) = B / 4294967296 - A / 4294967296 := cutI_in _ (by omega) (by omega)
  have e2 : shiftI (B / 4294967296 - A / 4294967296) (-2) = (B / 4294967296 - A / 4294967296) / 4 := by
    have := shift_dn19 (B / 4294967296 - A / 4294967296) 2 (by decide) (by decide)
    rw [show (-((2 : Nat) : Int)) = -2 from rfl] at this
    rw [this, show (2 : Int) ^ 2 = 4 from rfl]
    exact cutI_in _ (by omega) (by omega)
  have e3 : addI (A / 4294967296) ((B / 4294967296 - A / 4294967296) / 4) = A / 4294967296 + (B / 4294967296 - A / 4294967296) / 4 := cutI_in _ (by omega) (by omega)
  rw [e1, e2, e3]
  generalize hs : A / 4294967296 + (B / 4294967296 - A / 4294967296) / 4 = s
  by_cases h : M < rootI s
  · exfalso
    by_cases h0 : 0 ≤ s
    · have k := (le_rootI s (M + 1) h0 (by omega)).1 (by omega)
      have e : (M + 1) * (M + 1) = M * M + 2 * M + 1 := by rw [Int.add_mul, Int.mul_add]; omega
      omega
    · have : rootI s = 0 := by unfold rootI; rw [if_pos (by omega)]
      omega
  · omega
theorem smooth_zero : smoothL 0 0 = 0 := by
  have := smooth_in (a := 0) (b := 0) (by decide) (by decide)
  omega
theorem mulI_sign {o g : Int} (hg : 0 ≤ g) : (0 ≤ o → 0 ≤ mulI o g) ∧ (o ≤ 0 → mulI o g ≤ 0) := by
  constructor
  · intro h
    have := Int.mul_nonneg h hg
    unfold mulI cutI
    omega
  · intro h
    have := Int.mul_nonneg (show 0 ≤ -o by omega) hg
    rw [Int.neg_mul] at this
    unfold mulI cutI
    omega
theorem shift_sign {a : Int} (k : Nat) (hk : 0 < k) (hk' : k ≤ 1000) : (0 ≤ a → 0 ≤ shiftI a (-(k : Int))) ∧ (a ≤ 0 → shiftI a (-(k : Int)) ≤ 0) := by
  rw [shift_dn19 a k hk hk']
  have hp : (0 : Int) < 2 ^ k := Int.pow_pos (by decide)
  constructor
  · intro h
    have := Int.ediv_nonneg h (Int.le_of_lt hp)
    unfold cutI
    omega
  · intro h
    have : a / 2 ^ k ≤ 0 := by
      have := Int.ediv_le_ediv hp h
      rwa [Int.zero_ediv] at this
    unfold cutI
    omega
theorem powL_nonneg (n : Int) : 0 ≤ powL n := by
  unfold powL shiftI
  have e : ∀ x : Int, 0 ≤ x → 0 ≤ cutI x := fun x h => by unfold cutI; omega
  split
  · exact e _ (Int.ediv_nonneg (by decide) (Int.le_of_lt (Int.pow_pos (by decide))))
  · exact e _ (Int.mul_nonneg (by decide) (Int.le_of_lt (Int.pow_pos (by decide))))
theorem poll_in (n : Int) : 4 ≤ pollL n ∧ pollL n ≤ 17 := by unfold pollL; omega
/-- What is near turns the frequency the way it points. -/
theorem turn_sign (p : Pm) (d : Dc) {o gone : Int} (n : Int) (h0 : 0 ≤ gone) (h1 : gone ≤ 8796093022208) : (0 ≤ o → 0 ≤ turnL p d o gone n) ∧ (o ≤ 0 → turnL p d o gone n ≤ 0) := by
  have hp := poll_in n
  have hw := powL_nonneg (pollL n)
  unfold turnL
  rw [if_neg (by omega)]
  obtain ⟨k, hk⟩ : ∃ k : Nat, 2 * pollL n + 8 = (k : Int) := ⟨(2 * pollL n + 8).toNat, by omega⟩
  rw [hk]
  have s := shift_sign (a := mulI o (min gone (powL (pollL n)))) k (by omega) (by omega)
  have m := mulI_sign (o := o) (g := min gone (powL (pollL n))) (by omega)
  exact ⟨fun h => s.1 (m.1 h), fun h => s.2 (m.2 h)⟩
theorem turn_none (p : Pm) (d : Dc) (o n : Int) : turnL p d o 0 n = 0 := by
  have hw := powL_nonneg (pollL n)
  have hp := poll_in n
  unfold turnL
  rw [if_neg (by decide), show min 0 (powL (pollL n)) = 0 by omega]
  obtain ⟨k, hk⟩ : ∃ k : Nat, 2 * pollL n + 8 = (k : Int) := ⟨(2 * pollL n + 8).toNat, by omega⟩
  rw [hk, show mulI o 0 = 0 by unfold mulI; rw [Int.mul_zero]; rfl, shift_dn19 0 k (by omega) (by omega), Int.zero_ediv]
  rfl
/-- What is slewed in a second. -/
theorem tick_is (d : Dc) (n : Int) (h0 : -9223372036854775807 ≤ d.rest) (h1 : d.rest ≤ 9223372036854775807) :
    (0 < tickL d n → 0 < d.rest) ∧ (tickL d n < 0 → d.rest < 0) ∧ (tickD d n).rest = d.rest - tickL d n ∧ (tickD d n).rest ≤ max d.rest 0 ∧ min d.rest 0 ≤ (tickD d n).rest := by
  have hp := poll_in n
  obtain ⟨k, hk⟩ : ∃ k : Nat, pollL n + 4 = (k : Int) := ⟨(pollL n + 4).toNat, by omega⟩
  have ht : tickL d n = d.rest / 2 ^ k := by
    unfold tickL
    rw [hk, shift_dn19 d.rest k (by omega) (by omega)]
    have hp : (0 : Int) < 2 ^ k := Int.pow_pos (by decide)
    refine cutI_in _ ?_ ?_
    · have a1 := Int.ediv_le_ediv hp h0
      have a2 : -9223372036854775807 ≤ (-9223372036854775807 : Int) / 2 ^ k := by
        rw [Int.le_ediv_iff_mul_le hp]
        have : (1 : Int) ≤ 2 ^ k := by omega
        have := Int.mul_le_mul_of_nonneg_left this (show (0 : Int) ≤ 9223372036854775807 by decide)
        omega
      omega
    · have a1 := Int.ediv_le_ediv hp h1
      have a2 : (9223372036854775807 : Int) / 2 ^ k ≤ 9223372036854775807 := Int.ediv_le_self _ (by decide)
      omega
  have hp : (0 : Int) < 2 ^ k := Int.pow_pos (by decide)
  have q0 : 0 ≤ d.rest → 0 ≤ d.rest / 2 ^ k ∧ d.rest / 2 ^ k ≤ d.rest := fun h => ⟨Int.ediv_nonneg h (Int.le_of_lt hp), Int.ediv_le_self _ h⟩
  have q1 : d.rest < 0 → d.rest ≤ d.rest / 2 ^ k ∧ d.rest / 2 ^ k < 0 := fun h => by
    refine ⟨?_, Int.ediv_neg_of_neg_of_pos h hp⟩
    rw [Int.le_ediv_iff_mul_le hp]
    have : (1 : Int) ≤ 2 ^ k := by omega
    have := Int.mul_le_mul_of_nonneg_left this (show (0 : Int) ≤ -d.rest by omega)
    rw [Int.neg_mul, Int.neg_mul] at this
    omega
  have hr : (tickD d n).rest = subI d.rest (tickL d n) := rfl
  rw [hr, ht]
  generalize d.rest / 2 ^ k = q at *
  have e : subI d.rest q = d.rest - q := cutI_in _ (by omega) (by omega)
  rw [e]
  refine ⟨by omega, by omega, rfl, by omega, by omega⟩
end Go.Proofs.YtlidlmgmijndcaaGreat.W
