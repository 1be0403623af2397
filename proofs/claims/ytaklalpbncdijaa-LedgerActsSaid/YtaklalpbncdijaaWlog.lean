/- Plain facts: how many bits a number has, and a whole root. -/
import Derived.Test.YtaklalpbncdijaaWdefs
import Derived.Laws.Bits64b
import Derived.IntWalk
open Go.RowKit
namespace Go.Proofs.Ytaklalpbncdijaa.W
/-- The greatest k with 2^k not above n; -1 of what is not above 0. -/
def logI (n : Int) : Int := if n ≤ 0 then -1 else (Nat.log2 n.toNat : Int)
theorem pow_cast (k : Nat) : ((2 : Int) ^ k) = ((2 ^ k : Nat) : Int) := by simp
theorem pow_pos2 (k : Nat) : (0 : Int) < 2 ^ k := by rw [pow_cast]; exact_mod_cast Nat.two_pow_pos k
theorem div_zero (n : Int) (h : 0 ≤ n) (k : Nat) : (n / 2 ^ k == 0) = decide (n < 2 ^ k) := by
  have hp := pow_pos2 k
  rw [Bool.eq_iff_iff]
  simp only [beq_iff_eq, decide_eq_true_eq]
  constructor
  · intro e
    have h1 := Int.lt_mul_ediv_self_add (x := n) hp
    rw [e] at h1; omega
  · intro e; exact Int.ediv_eq_zero_of_lt h e
theorem logI_of (n : Int) (h : 0 ≤ n) (k : Nat) (h1 : n < 2 ^ k) (h2 : ∀ j, k = j + 1 → (2 : Int) ^ j ≤ n) : logI n = (k : Int) - 1 := by
  unfold logI
  cases k with
  | zero => rw [if_pos (by simp at h1; omega)]; simp
  | succ j =>
    have h3 := h2 j rfl
    have hp := pow_pos2 j
    rw [if_neg (by omega)]
    have e : Nat.log2 n.toNat = j := by
      rw [pow_cast] at h1 h3
      have a1 : n.toNat < 2 ^ (j + 1) := by omega
      have a2 : 2 ^ j ≤ n.toNat := by omega
      have hz : n.toNat ≠ 0 := by have := Nat.two_pow_pos j; omega
      have := (Nat.log2_lt hz).2 a1
      have := (Nat.le_log2 hz).2 a2
      omega
    rw [e]; omega
theorem logI_low (n : Int) (h : 0 < n) : ∃ k : Nat, logI n = k ∧ (2 : Int) ^ k ≤ n ∧ n < 2 ^ (k + 1) := by
  have hz : n.toNat ≠ 0 := by omega
  refine ⟨Nat.log2 n.toNat, by unfold logI; rw [if_neg (by omega)], ?_, ?_⟩
  · rw [pow_cast]
    have := (Nat.le_log2 hz).1 (Nat.le_refl _); omega
  · rw [pow_cast]
    have := (Nat.log2_lt hz).1 (Nat.lt_succ_self _); omega
end Go.Proofs.Ytaklalpbncdijaa.W
