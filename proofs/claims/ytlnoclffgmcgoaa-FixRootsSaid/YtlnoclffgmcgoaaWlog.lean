/- Plain facts: how many bits a number has, and a whole root. -/
import Derived.Test.YtlnoclffgmcgoaaWdefs
import Derived.Laws.Bits64b
import Derived.IntWalk
open Go.RowKit
namespace Go.Proofs.Ytlnoclffgmcgoaa.W
/-- The greatest k with 2^k not above n; -1 of what is not above 0. -/
def logI (n : Int) : Int := if n ≤ 0 then -1 else (Nat.log2 n.toNat : Int)
theorem pow_cast (k : Nat) : ((2 : Int) ^ k) = ((2 ^ k : Nat) : Int) := by simp
theorem pow_pos2 (k : Nat) : (0 : Int) < 2 ^ k := by rw [pow_cast]; exact_mod_cast Nat.two_pow_pos k
theorem div_zero (n : Int) (h : 0 ≤ n) (k : Nat) : (n / 2 ^ k == 0) = decide (n < 2 ^ k) := by
  have hp := pow_pos2 k
  rw [Bool.eq_iff_iff]
  simp only [beq_iff_eq, decide_eq_true_eq]
  constructor
  · intro e
    have h1 := Int.lt_mul_ediv_self_add (x := n) hp
    rw [e] at h1; omega
  · intro e; exact Int.ediv_eq_zero_of_lt h e
theorem logI_of (n : Int) (h : 0 ≤ n) (k : Nat) (h1 : n < 2 ^ k) (h2 : ∀ j, k = j + 1 → (2 : Int) ^ j ≤ n) : logI n = (k : Int) - 1 := by
  unfold logI
  cases k with
  | zero => rw [if_pos (by simp at h1; omega)]; simp
  | succ j =>
    have h3 := h2 j rfl
    have hp := pow_pos2 j
    rw [if_neg (by omega)]
    have e : Nat.log2 n.toNat = j := by
      rw [pow_cast] at h1 h3
      have a1 : n.toNat < 2 ^ (j + 1) := by omega
      have a2 : 2 ^ j ≤ n.toNat := by omega
      have hz : n.toNat ≠ 0 := by have := Nat.two_pow_pos j; omega
      have := (Nat.log2_lt hz).2 a1
      have := (Nat.le_log2 hz).2 a2
      omega
    rw [e]; omega
theorem logI_low (n : Int) (h : 0 < n) : ∃ k : Nat, logI n = k ∧ (2 : Int) ^ k ≤ n ∧ n < 2 ^ (k + 1) := by
  have hz : n.toNat ≠ 0 := by omega
  refine ⟨Nat.log2 n.toNat, by unfold logI; rw [if_neg (by omega)], ?_, ?_⟩
  · rw [pow_cast]
    have := (Nat.le_log2 hz).1 (Nat.le_refl _); omega
  · rw [pow_cast]
    have := (Nat.log2_lt hz).1 (Nat.lt_succ_self _); omega
theorem logI_zero (n : Int) (h : n ≤ 0) : logI n = -1 := by unfold logI; rw [if_pos h]
/-- The greatest number whose square is not above n. -/
def isq : Nat → Nat
  | 0 => 0
  | n + 1 => if (isq n + 1) * (isq n + 1) ≤ n + 1 then isq n + 1 else isq n
theorem isq_spec (n : Nat) : isq n * isq n ≤ n ∧ n < (isq n + 1) * (isq n + 1) := by
  induction n with
  | zero => simp [isq]
  | succ n ih =>
    unfold isq
    split
    · rename_i h
      refine ⟨h, ?_⟩
      have : (isq n + 1 + 1) * (isq n + 1 + 1) = (isq n + 1) * (isq n + 1) + 2 * (isq n + 1) + 1 := by grind
      omega
    · rename_i h
      exact ⟨by omega, by omega⟩
theorem le_isq (n t : Nat) : t ≤ isq n ↔ t * t ≤ n := by
  obtain ⟨h1, h2⟩ := isq_spec n
  constructor
  · intro h; exact Nat.le_trans (Nat.mul_le_mul h h) h1
  · intro h
    apply Nat.le_of_not_lt
    intro hlt
    have := Nat.mul_le_mul hlt hlt
    simp only [Nat.succ_eq_add_one] at this
    omega
/-- The root of hi * 2^64 + lo. -/
def sqrtI (hi lo : Int) : Int := (isq (hi * 18446744073709551616 + lo).toNat : Int)
theorem le_sqrtI (hi lo t : Int) (h : 0 ≤ hi) (h' : 0 ≤ lo) (ht : 0 ≤ t) : t ≤ sqrtI hi lo ↔ t * t ≤ hi * 18446744073709551616 + lo := by
  unfold sqrtI
  have := le_isq (hi * 18446744073709551616 + lo).toNat t.toNat
  have e : ((t.toNat * t.toNat : Nat) : Int) = t * t := by rw [Int.natCast_mul, Int.toNat_of_nonneg ht]
  constructor
  · intro h1
    have := this.1 (by omega); omega
  · intro h1
    have := this.2 (by omega); omega
theorem sqrtI_nonneg (hi lo : Int) : 0 ≤ sqrtI hi lo := by unfold sqrtI; omega
theorem sqrtI_lt (hi lo : Int) (h : 0 ≤ hi) (h1 : hi < 18446744073709551616) (h' : 0 ≤ lo) (h'' : lo < 18446744073709551616) : sqrtI hi lo < 18446744073709551616 := by
  apply Int.lt_of_not_ge
  intro hge
  have := (le_sqrtI hi lo 18446744073709551616 h h' (by decide)).1 hge
  omega
/-- The root's upper bits are found: the rest is nought. -/
def RootAt (s : Int) (k : Nat) (r : Int) : Prop := 0 ≤ r ∧ r < 18446744073709551616 ∧ r % 2 ^ (64 - k) = 0 ∧ r ≤ s ∧ s < r + 2 ^ (64 - k)
theorem RootAt.first (s : Int) (h : 0 ≤ s) (h1 : s < 18446744073709551616) : RootAt s 0 0 := ⟨by omega, by omega, by simp, h, by simpa using h1⟩
theorem RootAt.last {s r : Int} (h : RootAt s 64 r) : r = s := by
  obtain ⟨_, _, _, h4, h5⟩ := h
  simp at h5; omega
theorem or_bit (r : Int) (j : Nat) (hj : j < 64) (h0 : 0 ≤ r) (h1 : r < 18446744073709551616) (hm : r % 2 ^ (j + 1) = 0) :
    bits .or .u64 r (IntKind.u64.wrap (2 ^ j)) = r + 2 ^ j ∧ r + 2 ^ j < 18446744073709551616 := by
  have hp := Nat.two_pow_pos j
  have hlt : 2 ^ j < 2 ^ 64 := Nat.pow_lt_pow_right (by decide) hj
  have hw : IntKind.u64.wrap ((2 : Int) ^ j) = ((2 ^ j : Nat) : Int) := by rw [pow_cast, IntWalk.u64_in _ (by omega)]
  obtain ⟨n, rfl⟩ := Int.eq_ofNat_of_zero_le h0
  rw [hw]
  rw [pow_cast] at *
  have hm' : n % 2 ^ (j + 1) = 0 := by exact_mod_cast hm
  have e : n ||| 2 ^ j = n + 2 ^ j := by
    have h := Nat.two_pow_add_eq_or_of_lt (b := 2 ^ j) (i := j + 1) (Nat.pow_lt_pow_right (by decide) (Nat.lt_succ_self j)) (n / 2 ^ (j + 1))
    have h2 : 2 ^ (j + 1) * (n / 2 ^ (j + 1)) = n := by have := Nat.div_add_mod n (2 ^ (j + 1)); omega
    rw [h2] at h; exact h.symm
  have h3 : n + 2 ^ j < 2 ^ 64 := by
    rw [← e]; exact Nat.or_lt_two_pow (by omega) hlt
  refine ⟨?_, by omega⟩
  rw [bits_or_u64_nat _ _ (by omega) (by omega), e]; omega
theorem RootAt.mod {s r : Int} {k : Nat} (h : RootAt s k r) (hk : k < 64) : r % 2 ^ (63 - k + 1) = 0 := by
  have := h.2.2.1
  rwa [show 64 - k = 63 - k + 1 from by omega] at this
theorem pow_step (k : Nat) (hk : k < 64) : (2 : Int) ^ (64 - k) = 2 * 2 ^ (63 - k) := by
  rw [show 64 - k = 63 - k + 1 from by omega, Int.pow_succ]; omega
theorem RootAt.low {s r : Int} {k : Nat} (h : RootAt s k r) (hk : k < 64) : r % 2 ^ (63 - k) = 0 := by
  have h3 := h.2.2.1
  rw [pow_step k hk] at h3
  have h4 := Int.emod_emod_of_dvd r (show (2 : Int) ^ (63 - k) ∣ 2 * 2 ^ (63 - k) from ⟨2, by omega⟩)
  rw [h3] at h4; simpa using h4.symm
theorem RootAt.down {s r : Int} {k : Nat} (h : RootAt s k r) (hk : k < 64) (hs : s < r + 2 ^ (63 - k)) : RootAt s (k + 1) r := by
  refine ⟨h.1, h.2.1, ?_, h.2.2.2.1, ?_⟩
  · rw [show 64 - (k + 1) = 63 - k from by omega]; exact h.low hk
  · rw [show 64 - (k + 1) = 63 - k from by omega]; exact hs
theorem RootAt.up {s r : Int} {k : Nat} (h : RootAt s k r) (hk : k < 64) (hlt : r + 2 ^ (63 - k) < 18446744073709551616) (hs : r + 2 ^ (63 - k) ≤ s) : RootAt s (k + 1) (r + 2 ^ (63 - k)) := by
  have hp := pow_pos2 (63 - k)
  have h1 := h.1
  refine ⟨by omega, hlt, ?_, hs, ?_⟩
  · rw [show 64 - (k + 1) = 63 - k from by omega, Int.add_emod, h.low hk]; simp
  · rw [show 64 - (k + 1) = 63 - k from by omega]
    have := h.2.2.2.2; have := pow_step k hk; omega
theorem less_sq (hi lo t : Int) (h0 : 0 ≤ hi) (h2 : 0 ≤ lo) (h3 : lo < 18446744073709551616) (ht : 0 ≤ t) : lessB hi lo (mulH t t) (mulL t t) = decide (sqrtI hi lo < t) := by
  rw [lessB_eq _ _ _ _ h2 h3 (by unfold mulL; omega) (by unfold mulL; omega)]
  have h := le_sqrtI hi lo t h0 h2 ht
  rw [Bool.eq_iff_iff]
  simp only [decide_eq_true_eq]
  unfold mulH mulL
  generalize t * t = q at *
  constructor
  · intro h4
    apply Int.lt_of_not_ge
    intro h5
    have := h.1 h5
    omega
  · intro h4
    apply Int.lt_of_not_ge
    intro h5
    have := h.2 (by omega)
    omega
theorem sq_exact (hi lo t : Int) (h0 : 0 ≤ hi) (h2 : 0 ≤ lo) (ht : 0 ≤ t) (e1 : mulH t t = hi) (e2 : mulL t t = lo) : t = sqrtI hi lo := by
  unfold mulH at e1
  unfold mulL at e2
  have e : t * t = hi * 18446744073709551616 + lo := by generalize t * t = q at *; omega
  have h := (le_sqrtI hi lo t h0 h2 ht).2 (by omega)
  have h' := (le_sqrtI hi lo (t + 1) h0 h2 (by omega))
  have : ¬ t + 1 ≤ sqrtI hi lo := by
    intro h5
    have h6 := h'.1 h5
    have : (t + 1) * (t + 1) = t * t + 2 * t + 1 := by grind
    omega
  omega
end Go.Proofs.Ytlnoclffgmcgoaa.W
