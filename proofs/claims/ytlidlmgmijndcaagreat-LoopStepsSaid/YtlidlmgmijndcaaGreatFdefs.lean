import Derived.Test.YtlidlmgmijndcaaGreatWdefs
import Derived.Laws.Bits64b
import Derived.IntWalk
/- Plain facts: how many bits a number has, and a whole root. -/
open Go.RowKit
namespace Go.Proofs.YtlidlmgmijndcaaGreat.W
/-- The greatest k with 2^k not above n; -1 of what is not above 0. -/
def logI (n : Int) : Int := if n ≤ 0 then -1 else (Nat.log2 n.toNat : Int)
theorem pow_cast (k : Nat) : ((2 : Int) ^ k) = ((2 ^ k : Nat) : Int) := by simp
theorem pow_pos2 (k : Nat) : (0 : Int) < 2 ^ k := by rw [pow_cast]; exact_mod_cast Nat.two_pow_pos k
theorem div_zero (n : Int) (h : 0 ≤ n) (k : Nat) : (n / 2 ^ k == 0) = decide (n < 2 ^ k) := by
  have hp := pow_pos2 k
  rw [Bool.eq_iff_iff]
  simp only [beq_iff_eq, decide_eq_true_eq]
  constructor
  · intro e
    have h1 := Int.lt_mul_ediv_self_add (x := n) hp
    rw [e] at h1; omega
  · intro e; exact Int.ediv_eq_zero_of_lt h e
theorem logI_of (n : Int) (h : 0 ≤ n) (k : Nat) (h1 : n < 2 ^ k) (h2 : ∀ j, k = j + 1 → (2 : Int) ^ j ≤ n) : logI n = (k : Int) - 1 := by
  unfold logI
  cases k with
  | zero => rw [if_pos (by simp at h1; omega)]; simp
  | succ j =>
    have h3 := h2 j rfl
    have hp := pow_pos2 j
    rw [if_neg (by omega)]
    have e : Nat.log2 n.toNat = j := by
      rw [pow_cast] at h1 h3
      have a1 : n.toNat < 2 ^ (j + 1) := by omega
      have a2 : 2 ^ j ≤ n.toNat := by omega
      have hz : n.toNat ≠ 0 := by have := Nat.two_pow_pos j; omega
      have := (Nat.log2_lt hz).2 a1
      have := (Nat.le_log2 hz).2 a2
      omega
    rw [e]; omega
theorem logI_low (n : Int) (h : 0 < n) : ∃ k : Nat, logI n = k ∧ (2 : Int) ^ k ≤ n ∧ n < 2 ^ (k + 1) := by
  have hz : n.toNat ≠ 0 := by omega
  refine ⟨Nat.log2 n.toNat, by unfold logI; rw [if_neg (by omega)], ?_, ?_⟩
  · rw [pow_cast]
    have := (Nat.le_log2 hz).1 (Nat.le_refl _); omega
  · rw [pow_cast]
    have := (Nat.log2_lt hz).1 (Nat.lt_succ_self _); omega
/-- The greatest number whose square is not above n. -/
def isq : Nat → Nat
  | 0 => 0
  | n + 1 => if (isq n + 1) * (isq n + 1) ≤ n + 1 then isq n + 1 else isq n
theorem isq_spec (n : Nat) : isq n * isq n ≤ n ∧ n < (isq n + 1) * (isq n + 1) := by
  induction n with
  | zero => simp [isq]
  | succ n ih =>
    unfold isq
    split
    · rename_i h
      refine ⟨h, ?_⟩
      have : (isq n + 1 + 1) * (isq n + 1 + 1) = (isq n + 1) * (isq n + 1) + 2 * (isq n + 1) + 1 := by grind
      omega
    · rename_i h
      exact ⟨by omega, by omega⟩
theorem le_isq (n t : Nat) : t ≤ isq n ↔ t * t ≤ n := by
  obtain ⟨h1, h2⟩ := isq_spec n
  constructor
  · intro h; exact Nat.le_trans (Nat.mul_le_mul h h) h1
  · intro h
    apply Nat.le_of_not_lt
    intro hlt
    have := Nat.mul_le_mul hlt hlt
    simp only [Nat.succ_eq_add_one] at this
    omega
/-- The root of hi * 2^64 + lo. -/
def sqrtI (hi lo : Int) : Int := (isq (hi * 18446744073709551616 + lo).toNat : Int)
theorem le_sqrtI (hi lo t : Int) (h : 0 ≤ hi) (h' : 0 ≤ lo) (ht : 0 ≤ t) : t ≤ sqrtI hi lo ↔ t * t ≤ hi * 18446744073709551616 + lo := by
  unfold sqrtI
  have := le_isq (hi * 18446744073709551616 + lo).toNat t.toNat
  have e : ((t.toNat * t.toNat : Nat) : Int) = t * t := by rw [Int.natCast_mul, Int.toNat_of_nonneg ht]
  constructor
  · intro h1
    have := this.1 (by omega); omega
  · intro h1
    have := this.2 (by omega); omega
theorem sqrtI_nonneg (hi lo : Int) : 0 ≤ sqrtI hi lo := by unfold sqrtI; omega
theorem sqrtI_lt (hi lo : Int) (h : 0 ≤ hi) (h1 : hi < 18446744073709551616) (h' : 0 ≤ lo) (h'' : lo < 18446744073709551616) : sqrtI hi lo < 18446744073709551616 := by
  apply Int.lt_of_not_ge
  intro hge
  have := (le_sqrtI hi lo 18446744073709551616 h h' (by decide)).1 hge
  omega
/-- The root's upper bits are found: the rest is nought. -/
def RootAt (s : Int) (k : Nat) (r : Int) : Prop := 0 ≤ r ∧ r < 18446744073709551616 ∧ r % 2 ^ (64 - k) = 0 ∧ r ≤ s ∧ s < r + 2 ^ (64 - k)
theorem RootAt.first (s : Int) (h : 0 ≤ s) (h1 : s < 18446744073709551616) : RootAt s 0 0 := ⟨by omega, by omega, by simp, h, by simpa using h1⟩
theorem RootAt.last {s r : Int} (h : RootAt s 64 r) : r = s := by
  obtain ⟨_, _, _, h4, h5⟩ := h
  simp at h5; omega
theorem or_bit (r : Int) (j : Nat) (hj : j < 64) (h0 : 0 ≤ r) (h1 : r < 18446744073709551616) (hm : r % 2 ^ (j + 1) = 0) :
    bits .or .u64 r (IntKind.u64.wrap (2 ^ j)) = r + 2 ^ j ∧ r + 2 ^ j < 18446744073709551616 := by
  have hp := Nat.two_pow_pos j
  have hlt : 2 ^ j < 2 ^ 64 := Nat.pow_lt_pow_right (by decide) hj
  have hw : IntKind.u64.wrap ((2 : Int) ^ j) = ((2 ^ j : Nat) : Int) := by rw [pow_cast, IntWalk.u64_in _ (by omega)]
  obtain ⟨n, rfl⟩ := Int.eq_ofNat_of_zero_le h0
  rw [hw]
  rw [pow_cast] at *
  have hm' : n % 2 ^ (j + 1) = 0 := by exact_mod_cast hm
  have e : n ||| 2 ^ j = n + 2 ^ j := by
    have h := Nat.two_pow_add_eq_or_of_lt (b := 2 ^ j) (i := j + 1) (Nat.pow_lt_pow_right (by decide) (Nat.lt_succ_self j)) (n / 2 ^ (j + 1))
    have h2 : 2 ^ (j + 1) * (n / 2 ^ (j + 1)) = n := by have := Nat.div_add_mod n (2 ^ (j + 1)); omega
    rw [h2] at h; exact h.symm
  have h3 : n + 2 ^ j < 2 ^ 64 := by
    rw [← e]; exact Nat.or_lt_two_pow (by omega) hlt
  refine ⟨?_, by omega⟩
  rw [bits_or_u64_nat _ _ (by omega) (by omega), e]; omega
theorem RootAt.mod {s r : Int} {k : Nat} (h : RootAt s k r) (hk : k < 64) : r % 2 ^ (63 - k + 1) = 0 := by
  have := h.2.2.1
  rwa [show 64 - k = 63 - k + 1 from by omega] at this
theorem pow_step (k : Nat) (hk : k < 64) : (2 : Int) ^ (64 - k) = 2 * 2 ^ (63 - k) := by
  rw [show 64 - k = 63 - k + 1 from by omega, Int.pow_succ]; omega
theorem RootAt.low {s r : Int} {k : Nat} (h : RootAt s k r) (hk : k < 64) : r % 2 ^ (63 - k) = 0 := by
  have h3 := h.2.2.1
  rw [pow_step k hk] at h3
  have h4 := Int.emod_emod_of_dvd r (show (2 : Int) ^ (63 - k) ∣ 2 * 2 ^ (63 - k) from ⟨2, by omega⟩)
  rw [h3] at h4; simpa using h4.symm
theorem RootAt.down {s r : Int} {k : Nat} (h : RootAt s k r) (hk : k < 64) (hs : s < r + 2 ^ (63 - k)) : RootAt s (k + 1) r := by
  refine ⟨h.1, h.2.1, ?_, h.2.2.2.1, ?_⟩
  · rw [show 64 - (k + 1) = 63 - k from by omega]; exact h.low hk
  · rw [show 64 - (k + 1) = 63 - k from by omega]; exact hs
theorem RootAt.up {s r : Int} {k : Nat} (h : RootAt s k r) (hk : k < 64) (hlt : r + 2 ^ (63 - k) < 18446744073709551616) (hs : r + 2 ^ (63 - k) ≤ s) : RootAt s (k + 1) (r + 2 ^ (63 - k)) := by
  have hp := pow_pos2 (63 - k)
  have h1 := h.1
  refine ⟨by omega, hlt, ?_, hs, ?_⟩
  · rw [show 64 - (k + 1) = 63 - k from by omega, Int.add_emod, h.low hk]; simp
  · rw [show 64 - (k + 1) = 63 - k from by omega]
    have := h.2.2.2.2; have := pow_step k hk; omega
theorem less_sq (hi lo t : Int) (h0 : 0 ≤ hi) (h2 : 0 ≤ lo) (h3 : lo < 18446744073709551616) (ht : 0 ≤ t) : lessB hi lo (mulH t t) (mulL t t) = decide (sqrtI hi lo < t) := by
  rw [lessB_eq _ _ _ _ h2 h3 (by unfold mulL; omega) (by unfold mulL; omega)]
  have h := le_sqrtI hi lo t h0 h2 ht
  rw [Bool.eq_iff_iff]
  simp only [decide_eq_true_eq]
  unfold mulH mulL
  generalize t * t = q at *
  constructor
  · intro h4
    apply Int.lt_of_not_ge
    intro h5
    have := h.1 h5
    omega
  · intro h4
    apply Int.lt_of_not_ge
    intro h5
    have := h.2 (by omega)
    omega
theorem sq_exact (hi lo t : Int) (h0 : 0 ≤ hi) (h2 : 0 ≤ lo) (ht : 0 ≤ t) (e1 : mulH t t = hi) (e2 : mulL t t = lo) : t = sqrtI hi lo := by
  unfold mulH at e1
  unfold mulL at e2
  have e : t * t = hi * 18446744073709551616 + lo := by generalize t * t = q at *; omega
  have h := (le_sqrtI hi lo t h0 h2 ht).2 (by omega)
  have h' := (le_sqrtI hi lo (t + 1) h0 h2 (by omega))
  have : ¬ t + 1 ≤ sqrtI hi lo := by
    intro h5
    have h6 := h'.1 h5
    have : (t + 1) * (t + 1) = t * t + 2 * t + 1 := by grind
    omega
  omega
end Go.Proofs.YtlidlmgmijndcaaGreat.W

/- Plain facts: long division by guessed halves. -/
namespace Go.Proofs.YtlidlmgmijndcaaGreat.W
open Go.RowKit
set_option linter.unusedVariables false
/-- A guess is not below the quotient; what is left over goes with it. -/
structure Guess (r n d1 d0 g o : Int) : Prop where
  g0 : 0 ≤ g
  g1 : g ≤ 4294967297
  o0 : 0 ≤ o
  o1 : o < 4294967296
  sum : g * d1 + o = r
  top : (r * 4294967296 + n) / (d1 * 4294967296 + d0) ≤ g
theorem Guess.first (r n d1 d0 : Int) (hr : 0 ≤ r) (hd : r < d1 * 4294967296 + d0) (hn : 0 ≤ n) (hn' : n < 4294967296) (h0 : 0 ≤ d0) (h0' : d0 < 4294967296) (h1 : 2147483648 ≤ d1) (h1' : d1 < 4294967296) : Guess r n d1 d0 (r / d1) (r % d1) := by
  have e := Int.mul_ediv_add_emod r d1
  have l := Int.emod_lt_of_pos r (show 0 < d1 by omega)
  have l0 := Int.emod_nonneg r (show d1 ≠ 0 by omega)
  have q0 : 0 ≤ r / d1 := Int.ediv_nonneg hr (by omega)
  refine ⟨q0, ?_, l0, by omega, by rw [Int.mul_comm]; exact e, ?_⟩
  · apply Int.le_of_lt_add_one
    apply Int.ediv_lt_of_lt_mul (by omega)
    omega
  · rw [Int.le_ediv_iff_mul_le (by omega)]
    have h := Int.ediv_mul_le (r * 4294967296 + n) (show d1 * 4294967296 + d0 ≠ 0 by omega)
    have hq : 0 ≤ (r * 4294967296 + n) / (d1 * 4294967296 + d0) := Int.ediv_nonneg (by omega) (by omega)
    generalize (r * 4294967296 + n) / (d1 * 4294967296 + d0) = q at *
    have e2 : q * (d1 * 4294967296 + d0) = q * d1 * 4294967296 + q * d0 := by grind
    have := Int.mul_nonneg hq h0
    omega
theorem Guess.less {r n d1 d0 g o : Int} (G : Guess r n d1 d0 g o) (hn : 0 ≤ n) (hn' : n < 4294967296) (h0 : 0 ≤ d0) (h0' : d0 < 4294967296) (h1 : 2147483648 ≤ d1) (h1' : d1 < 4294967296) (h : o * 4294967296 + n < g * d0) : (r * 4294967296 + n) / (d1 * 4294967296 + d0) ≤ g - 1 ∧ 1 ≤ g := by
  have hs := G.sum
  have lt : (r * 4294967296 + n) / (d1 * 4294967296 + d0) < g := by
    apply Int.ediv_lt_of_lt_mul (by omega)
    have : g * (d1 * 4294967296 + d0) = g * d1 * 4294967296 + g * d0 := by grind
    omega
  have := G.o0
  have := G.g0
  refine ⟨by omega, ?_⟩
  apply Int.le_of_not_gt
  intro hg
  have : g = 0 := by omega
  subst this
  omega
theorem Guess.next {r n d1 d0 g o : Int} (G : Guess r n d1 d0 g o) (hn : 0 ≤ n) (hn' : n < 4294967296) (h0 : 0 ≤ d0) (h0' : d0 < 4294967296) (h1 : 2147483648 ≤ d1) (h1' : d1 < 4294967296) (h : o * 4294967296 + n < g * d0) (ho : o + d1 < 4294967296) : Guess r n d1 d0 (g - 1) (o + d1) := by
  obtain ⟨a, b⟩ := G.less hn hn' h0 h0' h1 h1' h
  have hs := G.sum
  have := G.g1
  have := G.o0
  exact ⟨by omega, by omega, by omega, ho, by rw [Int.sub_mul]; omega, a⟩
/-- The quotient and the rest, where the guess is not above the quotient either. -/
theorem Guess.done {r n d1 d0 g o : Int} (hs : g * d1 + o = r) (top : (r * 4294967296 + n) / (d1 * 4294967296 + d0) ≤ g) (h0 : 0 ≤ d0) (h1 : 2147483648 ≤ d1) (h : g * d0 ≤ o * 4294967296 + n) : g = (r * 4294967296 + n) / (d1 * 4294967296 + d0) ∧ r * 4294967296 + n - g * (d1 * 4294967296 + d0) = (r * 4294967296 + n) % (d1 * 4294967296 + d0) := by
  have le : g ≤ (r * 4294967296 + n) / (d1 * 4294967296 + d0) := by
    rw [Int.le_ediv_iff_mul_le (by omega)]
    have : g * (d1 * 4294967296 + d0) = g * d1 * 4294967296 + g * d0 := by grind
    omega
  have e : g = (r * 4294967296 + n) / (d1 * 4294967296 + d0) := by omega
  refine ⟨e, ?_⟩
  have := Int.mul_ediv_add_emod (r * 4294967296 + n) (d1 * 4294967296 + d0)
  rw [← e] at this
  have c := Int.mul_comm g (d1 * 4294967296 + d0)
  omega
theorem Guess.stop {r n d1 d0 g o : Int} (G : Guess r n d1 d0 g o) (hn : 0 ≤ n) (hn' : n < 4294967296) (h0 : 0 ≤ d0) (h0' : d0 < 4294967296) (h1 : 2147483648 ≤ d1) (h1' : d1 < 4294967296) (h : g * d0 ≤ o * 4294967296 + n) :
    g = (r * 4294967296 + n) / (d1 * 4294967296 + d0) ∧ r * 4294967296 + n - g * (d1 * 4294967296 + d0) = (r * 4294967296 + n) % (d1 * 4294967296 + d0) :=
  Guess.done G.sum G.top h0 h1 h
theorem Guess.broke {r n d1 d0 g o : Int} (G : Guess r n d1 d0 g o) (hn : 0 ≤ n) (hn' : n < 4294967296) (h0 : 0 ≤ d0) (h0' : d0 < 4294967296) (h1 : 2147483648 ≤ d1) (h1' : d1 < 4294967296) (h : o * 4294967296 + n < g * d0) (ho : 4294967296 ≤ o + d1) :
    g - 1 = (r * 4294967296 + n) / (d1 * 4294967296 + d0) ∧ r * 4294967296 + n - (g - 1) * (d1 * 4294967296 + d0) = (r * 4294967296 + n) % (d1 * 4294967296 + d0) := by
  obtain ⟨a, b⟩ := G.less hn hn' h0 h0' h1 h1' h
  refine Guess.done (o := o + d1) (by rw [Int.sub_mul]; have := G.sum; omega) a h0 h1 ?_
  have : (g - 1) * d0 ≤ 4294967296 * d0 := Int.mul_le_mul_of_nonneg_right (by have := G.g1; omega) h0
  omega
theorem Guess.prod {r n d1 d0 g o : Int} (G : Guess r n d1 d0 g o) (h0 : 0 ≤ d0) (h0' : d0 < 4294967296) : 0 ≤ g * d0 ∧ g * d0 ≤ 18446744073709551615 := by
  refine ⟨Int.mul_nonneg G.g0 h0, ?_⟩
  have : g * d0 ≤ 4294967297 * d0 := Int.mul_le_mul_of_nonneg_right G.g1 h0
  omega
/-- The rest, reckoned round 2^64. -/
theorem rest_wraps (r n g d : Int) (h : 0 ≤ r * 4294967296 + n - g * d) (h' : r * 4294967296 + n - g * d < 18446744073709551616) :
    IntKind.u64.wrap (IntKind.u64.wrap (IntKind.u64.wrap (r * 4294967296) + n) - IntKind.u64.wrap (g * d)) = r * 4294967296 + n - g * d := by
  simp only [IntKind.wrap_u64]
  generalize g * d = p at *
  omega
/-- Shifting both numbers till the divisor's highest bit is set. -/
structure Shifted (hi lo d : Int) (s : Nat) (D R L : Int) : Prop where
  d0 : 9223372036854775808 ≤ D
  d1 : D < 18446744073709551616
  r0 : 0 ≤ R
  r1 : R < D
  l0 : 0 ≤ L
  l1 : L < 18446744073709551616
  isD : D = d * 2 ^ s
  all : R * 18446744073709551616 + L = (hi * 18446744073709551616 + lo) * 2 ^ s
theorem mul_lt_of (a b p : Int) (hp : 0 < p) (h : a < b) : a * p + p ≤ b * p := by
  have := Int.mul_le_mul_of_nonneg_right (show a + 1 ≤ b by omega) (show 0 ≤ p by omega)
  rw [Int.add_mul] at this; omega
theorem two_pow_split (s : Nat) (hs : s ≤ 63) : (2 : Int) ^ s * 2 ^ (64 - s) = 18446744073709551616 := by
  rw [← Int.pow_add, show s + (64 - s) = 64 from by omega]; decide
theorem shifted (hi lo d : Int) (s : Nat) (h0 : 0 ≤ hi) (hd : hi < d) (hd' : d < 18446744073709551616) (l0 : 0 ≤ lo) (l1 : lo < 18446744073709551616) (hs : s ≤ 63) (hl : logI d = 63 - (s : Int)) :
    IntKind.u64.wrap (d * 2 ^ s) = d * 2 ^ s ∧ IntKind.u64.wrap (hi * 2 ^ s) = hi * 2 ^ s ∧
    bits .or .u64 (hi * 2 ^ s) (lo / 2 ^ (64 - s)) = hi * 2 ^ s + lo / 2 ^ (64 - s) ∧
    Shifted hi lo d s (d * 2 ^ s) (hi * 2 ^ s + lo / 2 ^ (64 - s)) (IntKind.u64.wrap (lo * 2 ^ s)) := by
  obtain ⟨k, hk, hk1, hk2⟩ := logI_low d (by omega)
  have ek : k = 63 - s := by omega
  subst ek
  have hp := pow_pos2 s
  have hq := pow_pos2 (64 - s)
  have hpq := two_pow_split s hs
  have e1 : (2 : Int) ^ (63 - s) * 2 ^ s = 9223372036854775808 := by
    rw [← Int.pow_add, show 63 - s + s = 63 from by omega]; decide
  have e2 : (2 : Int) ^ (63 - s + 1) * 2 ^ s = 18446744073709551616 := by
    rw [← Int.pow_add, show 63 - s + 1 + s = 64 from by omega]; decide
  have D0 : 9223372036854775808 ≤ d * 2 ^ s := by rw [← e1]; exact Int.mul_le_mul_of_nonneg_right hk1 (by omega)
  have D1 : d * 2 ^ s < 18446744073709551616 := by have := mul_lt_of d _ (2 ^ s) hp hk2; omega
  have H1 := mul_lt_of hi d (2 ^ s) hp hd
  have H0 : 0 ≤ hi * 2 ^ s := Int.mul_nonneg h0 (by omega)
  have lq := Int.mul_ediv_add_emod lo (2 ^ (64 - s))
  have lr0 := Int.emod_nonneg lo (show (2 : Int) ^ (64 - s) ≠ 0 by omega)
  have lr1 := Int.emod_lt_of_pos lo hq
  have ld0 : 0 ≤ lo / 2 ^ (64 - s) := Int.ediv_nonneg l0 (by omega)
  have ld1 : lo / 2 ^ (64 - s) < 2 ^ s := by
    apply Int.ediv_lt_of_lt_mul hq
    omega
  have hW : IntKind.u64.wrap (lo * 2 ^ s) = lo % 2 ^ (64 - s) * 2 ^ s := by
    have em : lo * 2 ^ s = lo % 2 ^ (64 - s) * 2 ^ s + 18446744073709551616 * (lo / 2 ^ (64 - s)) := by
      rw [← hpq]
      generalize (2 : Int) ^ s = P at *
      generalize (2 : Int) ^ (64 - s) = Q at *
      generalize lo / Q = A at *
      generalize lo % Q = B at *
      rw [← lq]; grind
    rw [IntKind.wrap_u64, em, Int.add_mul_emod_self_left]
    refine Int.emod_eq_of_lt (Int.mul_nonneg lr0 (by omega)) ?_
    have := mul_lt_of _ _ (2 ^ s) hp lr1
    rw [Int.mul_comm (2 ^ (64 - s)), hpq] at this; omega
  have b0 : 0 ≤ lo % 2 ^ (64 - s) * 2 ^ s := Int.mul_nonneg lr0 (by omega)
  have b1 : lo % 2 ^ (64 - s) * 2 ^ s < 18446744073709551616 := by
    have := mul_lt_of _ _ (2 ^ s) hp lr1
    rw [Int.mul_comm (2 ^ (64 - s)), hpq] at this; omega
  refine ⟨IntWalk.u64_in _ (by omega), IntWalk.u64_in _ (by omega), ?_, ?_⟩
  · obtain ⟨n, hn⟩ := Int.eq_ofNat_of_zero_le H0
    obtain ⟨m, hm⟩ := Int.eq_ofNat_of_zero_le ld0
    have hn' : (n : Int) = hi * 2 ^ s := by rw [hn]
    have hm' : (m : Int) = lo / 2 ^ (64 - s) := by rw [hm]
    rw [← hn', ← hm', bits_or_u64_nat _ _ (by omega) (by omega)]
    have hi' : hi.toNat * 2 ^ s = n := by
      have : ((hi.toNat * 2 ^ s : Nat) : Int) = (n : Int) := by rw [hn', Int.natCast_mul, Int.toNat_of_nonneg h0, pow_cast]
      exact_mod_cast this
    have hmlt : m < 2 ^ s := by
      have : (m : Int) < ((2 ^ s : Nat) : Int) := by rw [hm', ← pow_cast]; exact ld1
      exact_mod_cast this
    have h := Nat.two_pow_add_eq_or_of_lt (b := m) (i := s) hmlt hi.toNat
    rw [Nat.mul_comm, hi'] at h
    rw [← h]; simp
  · refine ⟨D0, D1, by omega, by omega, by rw [hW]; exact b0, by rw [hW]; exact b1, rfl, ?_⟩
    rw [hW]
    generalize (2 : Int) ^ s = P at *
    generalize (2 : Int) ^ (64 - s) = Q at *
    generalize lo / Q = A at *
    generalize lo % Q = B at *
    rw [← lq, ← hpq]; grind
/-- Two halves of the quotient are the quotient. -/
theorem halves {hi lo d : Int} {s : Nat} {D R L : Int} (S : Shifted hi lo d s D R L) (hd : 0 < d) :
    0 ≤ (R * 4294967296 + L / 4294967296) / D ∧ (R * 4294967296 + L / 4294967296) / D < 4294967296 ∧
    0 ≤ ((R * 4294967296 + L / 4294967296) % D * 4294967296 + L % 4294967296) / D ∧ ((R * 4294967296 + L / 4294967296) % D * 4294967296 + L % 4294967296) / D < 4294967296 ∧
    (R * 4294967296 + L / 4294967296) / D * 4294967296 + ((R * 4294967296 + L / 4294967296) % D * 4294967296 + L % 4294967296) / D = (hi * 18446744073709551616 + lo) / d ∧
    ((R * 4294967296 + L / 4294967296) % D * 4294967296 + L % 4294967296) % D / 2 ^ s = (hi * 18446744073709551616 + lo) % d := by
  have hp := pow_pos2 s
  have d0 := S.d0
  have r0 := S.r0
  have r1 := S.r1
  have l0 := S.l0
  have l1 := S.l1
  have hD : 0 < D := by omega
  have a1 := Int.mul_ediv_add_emod (R * 4294967296 + L / 4294967296) D
  have a2 := Int.emod_nonneg (R * 4294967296 + L / 4294967296) (show D ≠ 0 by omega)
  have a3 := Int.emod_lt_of_pos (R * 4294967296 + L / 4294967296) hD
  have a0 : 0 ≤ (R * 4294967296 + L / 4294967296) / D := Int.ediv_nonneg (by omega) (by omega)
  have a4 : (R * 4294967296 + L / 4294967296) / D < 4294967296 := Int.ediv_lt_of_lt_mul hD (by omega)
  generalize (R * 4294967296 + L / 4294967296) / D = q1 at *
  generalize (R * 4294967296 + L / 4294967296) % D = m at *
  have b1 := Int.mul_ediv_add_emod (m * 4294967296 + L % 4294967296) D
  have b2 := Int.emod_nonneg (m * 4294967296 + L % 4294967296) (show D ≠ 0 by omega)
  have b3 := Int.emod_lt_of_pos (m * 4294967296 + L % 4294967296) hD
  have b0 : 0 ≤ (m * 4294967296 + L % 4294967296) / D := Int.ediv_nonneg (by omega) (by omega)
  have b4 : (m * 4294967296 + L % 4294967296) / D < 4294967296 := Int.ediv_lt_of_lt_mul hD (by omega)
  generalize (m * 4294967296 + L % 4294967296) / D = q0 at *
  generalize (m * 4294967296 + L % 4294967296) % D = r at *
  have all := S.all
  have key : (hi * 18446744073709551616 + lo) * 2 ^ s = D * (q1 * 4294967296 + q0) + r := by
    rw [← all]
    have : D * (q1 * 4294967296 + q0) = D * q1 * 4294967296 + D * q0 := by grind
    omega
  have isD := S.isD
  have kq : (hi * 18446744073709551616 + lo) / d = q1 * 4294967296 + q0 := by
    have : (hi * 18446744073709551616 + lo) * 2 ^ s / (d * 2 ^ s) = (hi * 18446744073709551616 + lo) / d := Int.mul_ediv_mul_of_pos_left _ _ hp
    rw [← this, key, ← isD, Int.add_comm, Int.add_mul_ediv_left _ _ (by omega), Int.ediv_eq_zero_of_lt b2 b3]; omega
  refine ⟨a0, a4, b0, b4, kq.symm, ?_⟩
  have hm := Int.mul_ediv_add_emod (hi * 18446744073709551616 + lo) d
  rw [kq] at hm
  have hr : r = (hi * 18446744073709551616 + lo) % d * 2 ^ s := by
    generalize (hi * 18446744073709551616 + lo) % d = M at *
    rw [← hm] at key
    rw [isD] at key
    generalize (2 : Int) ^ s = P at *
    generalize q1 * 4294967296 + q0 = Q at *
    have : (d * Q + M) * P = d * P * Q + M * P := by grind
    omega
  rw [hr, Int.mul_ediv_cancel _ (by omega)]
end Go.Proofs.YtlidlmgmijndcaaGreat.W

/- Plain functions on whole numbers that the walks of layer 2 speak of; nothing of the program is imported. -/
namespace Go.Proofs.YtlidlmgmijndcaaGreat.W
open Go.RowKit
set_option linter.unusedVariables false
/-- A number, cut. -/
def cutI (x : Int) : Int := if x < -9223372036854775807 then -9223372036854775807 else if 9223372036854775807 < x then 9223372036854775807 else x
theorem cutI_in (x : Int) (h : -9223372036854775807 ≤ x) (h' : x ≤ 9223372036854775807) : cutI x = x := by unfold cutI; omega
theorem cutI_high (x : Int) (h : 9223372036854775807 ≤ x) : cutI x = 9223372036854775807 := by unfold cutI; omega
theorem cutI_low (x : Int) (h : x ≤ -9223372036854775807) : cutI x = -9223372036854775807 := by unfold cutI; omega
theorem cutI_range (x : Int) : -9223372036854775807 ≤ cutI x ∧ cutI x ≤ 9223372036854775807 := by unfold cutI; omega
/-- How far a number is from 0. -/
def sizeI (a : Int) : Int := if a < 0 then -a else a
theorem sizeI_neg {a : Int} (h : a < 0) : sizeI a = -a := by unfold sizeI; omega
theorem sizeI_pos {a : Int} (h : 0 ≤ a) : sizeI a = a := by unfold sizeI; omega
theorem sizeI_range (a : Int) (h : -9223372036854775808 ≤ a) (h' : a ≤ 9223372036854775807) : 0 ≤ sizeI a ∧ sizeI a ≤ 9223372036854775808 := by unfold sizeI; omega
/-- What cut tells of a sign, a size and whether there is a rest. -/
def signI (below : Bool) (x : Int) : Int := if below then -x else x
def restI (below : Bool) (n r : Int) : Int := if below then (if 0 < r then -n - 1 else -n) else n
theorem rest_div (below : Bool) (V d : Int) (hV : 0 ≤ V) (hd : 0 < d) : restI below (V / d) (V % d) = signI below V / d := by
  have h := Int.mul_ediv_add_emod V d
  have r0 := Int.emod_nonneg V (show d ≠ 0 by omega)
  have r1 := Int.emod_lt_of_pos V hd
  cases below
  · simp [restI, signI]
  · simp only [restI, signI, if_true]
    generalize V / d = q at *
    generalize V % d = r at *
    symm
    by_cases hr : 0 < r
    · rw [if_pos hr]
      have : -V = (d - r) + (-q - 1) * d := by rw [← h, Int.sub_mul, Int.neg_mul, Int.mul_comm q d]; omega
      rw [this, Int.add_mul_ediv_right _ _ (by omega), Int.ediv_eq_zero_of_lt (by omega) (by omega)]; omega
    · rw [if_neg hr]
      have : -V = (-q) * d := by rw [← h, Int.neg_mul, Int.mul_comm q d]; omega
      rw [this, Int.mul_ediv_cancel _ (by omega)]
/-- A number of 128 bits with a sign, by a divisor, rounded down and cut. -/
def shareI (below : Bool) (V d : Int) : Int := cutI (signI below V / d)
theorem share_large (below : Bool) (hi lo d : Int) (h0 : 0 ≤ lo) (hd : 0 < d) (h : d ≤ hi) : shareI below (hi * 18446744073709551616 + lo) d = cutI (signI below 18446744073709551615) := by
  unfold shareI
  have h1 : 18446744073709551616 ≤ (hi * 18446744073709551616 + lo) / d := by
    rw [Int.le_ediv_iff_mul_le hd]
    omega
  have h2 := rest_div true (hi * 18446744073709551616 + lo) d (by omega) hd
  cases below
  · simp only [signI]
    rw [cutI_high _ (by simp; omega), cutI_high _ (by simp)]
  · rw [← h2]
    simp only [restI, signI, if_true]
    rw [cutI_low _ (by split <;> omega), cutI_low _ (by omega)]
theorem most_down (x : Int) (h : x ≤ -9223372036854775807) : cutI (signI true 18446744073709551615) = cutI x := by rw [cutI_low x h]; rfl
theorem most_up (x : Int) (h : 9223372036854775807 ≤ x) : cutI (signI false 18446744073709551615) = cutI x := by rw [cutI_high x h]; rfl
def addI (a b : Int) : Int := cutI (a + b)
def subI (a b : Int) : Int := cutI (a - b)
def absI (a : Int) : Int := cutI (sizeI a)
def mulI (a b : Int) : Int := cutI (a * b / 4294967296)
def endI (a : Int) : Int := if a < 0 then -9223372036854775807 else if a = 0 then 0 else 9223372036854775807
def divI (a b : Int) : Int := if b = 0 then endI a else if 0 < b then cutI (a * 4294967296 / b) else cutI (-a * 4294967296 / -b)
def shiftI (a n : Int) : Int := if n < 0 then cutI (a / 2 ^ (min (-n) 1000).toNat) else cutI (a * 2 ^ (min n 1000).toNat)
def rootI (a : Int) : Int := if a ≤ 0 then 0 else (isq (a * 4294967296).toNat : Int)
def clampI (a low high : Int) : Int := cutI (if a < low then low else if high < a then high else a)
theorem signs_mul (a b : Int) : signI (decide (a < 0) != decide (b < 0)) (sizeI a * sizeI b) = a * b := by
  by_cases ha : a < 0 <;> by_cases hb : b < 0 <;> simp [signI, sizeI, ha, hb, Int.neg_mul, Int.mul_neg]
theorem mul_share (a b : Int) : shareI (decide (a < 0) != decide (b < 0)) (sizeI a * sizeI b) 4294967296 = mulI a b := by
  unfold shareI mulI; rw [signs_mul]
theorem div_share (a b : Int) (hb : b ≠ 0) : shareI (decide (a < 0) != decide (b < 0)) (sizeI a * 4294967296) (sizeI b) = divI a b := by
  unfold shareI divI
  rw [if_neg hb]
  by_cases ha : a < 0 <;> by_cases hb' : b < 0
  · have e : (decide (a < 0) != decide (b < 0)) = false := by simp [ha, hb']
    rw [e, sizeI_neg ha, sizeI_neg hb', if_neg (by omega)]; rfl
  · have e : (decide (a < 0) != decide (b < 0)) = true := by simp [ha, hb']
    rw [e, sizeI_neg ha, sizeI_pos (show 0 ≤ b by omega), if_pos (by omega)]
    show cutI (-(-a * 4294967296) / b) = _
    rw [show -(-a * 4294967296) = a * 4294967296 by omega]
  · have e : (decide (a < 0) != decide (b < 0)) = true := by simp [ha, hb']
    rw [e, sizeI_pos (show 0 ≤ a by omega), sizeI_neg hb', if_neg (by omega)]
    show cutI (-(a * 4294967296) / -b) = _
    rw [show -(a * 4294967296) = -a * 4294967296 by omega]
  · have e : (decide (a < 0) != decide (b < 0)) = false := by simp [ha, hb']
    rw [e, sizeI_pos (show 0 ≤ a by omega), sizeI_pos (show 0 ≤ b by omega), if_pos (by omega)]; rfl
theorem wide_mul (a b : Int) : mulH a b * 18446744073709551616 + mulL a b = a * b := by
  unfold mulH mulL; omega
theorem prod_range (a b : Int) (ha : 0 ≤ a) (ha' : a ≤ 9223372036854775808) (hb : 0 ≤ b) (hb' : b ≤ 9223372036854775808) : 0 ≤ a * b ∧ a * b ≤ 85070591730234615865843651857942052864 := by
  refine ⟨Int.mul_nonneg ha hb, ?_⟩
  have h1 : a * b ≤ 9223372036854775808 * b := Int.mul_le_mul_of_nonneg_right ha' hb
  omega
theorem mulH_range (a b : Int) (ha : 0 ≤ a) (ha' : a ≤ 9223372036854775808) (hb : 0 ≤ b) (hb' : b ≤ 9223372036854775808) : 0 ≤ mulH a b ∧ mulH a b ≤ 4611686018427387904 ∧ 0 ≤ mulL a b ∧ mulL a b < 18446744073709551616 := by
  have := prod_range a b ha ha' hb hb'
  unfold mulH mulL; omega
theorem rootI_nonneg (a : Int) : 0 ≤ rootI a := by unfold rootI; split <;> omega
theorem le_rootI (a t : Int) (h : 0 ≤ a) (ht : 0 ≤ t) : t ≤ rootI a ↔ t * t ≤ a * 4294967296 := by
  unfold rootI
  by_cases ha : a ≤ 0
  · have : a = 0 := by omega
    subst this
    simp
    constructor
    · intro h; have : t = 0 := by omega
      subst this; simp
    · intro h
      apply Int.le_of_not_gt
      intro hg
      have := Int.mul_pos hg hg
      omega
  · rw [if_neg ha]
    obtain ⟨n, rfl⟩ : ∃ n : Nat, t = n := ⟨t.toNat, by omega⟩
    have hm : (((a * 4294967296).toNat : Nat) : Int) = a * 4294967296 := Int.toNat_of_nonneg (by omega)
    rw [← hm]
    generalize (a * 4294967296).toNat = m
    rw [Int.ofNat_le, le_isq]
    constructor
    · intro h; exact_mod_cast h
    · intro h; exact_mod_cast h
theorem rootI_lt (a : Int) (h : a ≤ 9223372036854775807) : rootI a < 281474976710656 := by
  by_cases ha : a ≤ 0
  · unfold rootI; rw [if_pos ha]; omega
  · apply Int.lt_of_not_ge
    intro hg
    have := (le_rootI a 281474976710656 (by omega) (by omega)).mp hg
    omega
theorem root_wide (a hi lo : Int) (e : hi * 18446744073709551616 + lo = max a 0 * 4294967296) : sqrtI hi lo = rootI a := by
  unfold sqrtI rootI
  rw [e]
  by_cases ha : a ≤ 0
  · rw [if_pos ha, Int.max_eq_right ha]; rfl
  · rw [if_neg ha, Int.max_eq_left (by omega)]
theorem sign_size (a : Int) : signI (decide (a < 0)) (sizeI a) = a := by
  by_cases h : a < 0 <;> simp [signI, sizeI, h]
theorem pow_min (j : Nat) : (2 : Int) ^ min j 64 ≤ 2 ^ j := by
  rw [pow_cast, pow_cast]; exact_mod_cast Nat.pow_le_pow_right (by decide) (Nat.min_le_left _ _)
theorem big_div (a d : Int) (ha : -9223372036854775808 ≤ a) (ha' : a ≤ 9223372036854775807) (hd : 18446744073709551616 ≤ d) : a / d = if a < 0 then -1 else 0 := by
  by_cases h : a < 0
  · rw [if_pos h]
    have : a = (a + d) + (-1) * d := by omega
    rw [this, Int.add_mul_ediv_right _ _ (by omega), Int.ediv_eq_zero_of_lt (by omega) (by omega)]; rfl
  · rw [if_neg h, Int.ediv_eq_zero_of_lt (by omega) (by omega)]
theorem pow_big (j : Nat) (h : 64 ≤ j) : (18446744073709551616 : Int) ≤ 2 ^ j := by
  have : (2 : Int) ^ 64 ≤ 2 ^ j := by rw [pow_cast, pow_cast]; exact_mod_cast Nat.pow_le_pow_right (by decide) h
  simpa using this
theorem shift_far (a : Int) (j : Nat) (ha : -9223372036854775808 ≤ a) (ha' : a ≤ 9223372036854775807) : a / 2 ^ min j 64 = a / 2 ^ j := by
  by_cases h : j ≤ 64
  · rw [Nat.min_eq_left h]
  · rw [Nat.min_eq_right (by omega), big_div a _ ha ha' (pow_big j (by omega)), big_div a _ ha ha' (by decide)]
theorem shift_down (a : Int) (j : Nat) (x : Bool) (hx : decide (a < 0) = x) (ha : -9223372036854775808 ≤ a) (ha' : a ≤ 9223372036854775807) :
    0 ≤ sizeI a / 2 ^ min j 64 ∧ sizeI a / 2 ^ min j 64 ≤ sizeI a ∧ 0 ≤ sizeI a - sizeI a / 2 ^ min j 64 * 2 ^ min j 64 ∧ sizeI a - sizeI a / 2 ^ min j 64 * 2 ^ min j 64 ≤ sizeI a ∧ 0 ≤ sizeI a / 2 ^ min j 64 * 2 ^ min j 64 ∧ sizeI a / 2 ^ min j 64 * 2 ^ min j 64 ≤ sizeI a ∧
    cutI (restI x (sizeI a / 2 ^ min j 64) (sizeI a - sizeI a / 2 ^ min j 64 * 2 ^ min j 64)) = cutI (a / 2 ^ j) := by
  obtain ⟨s0, s1⟩ := sizeI_range a ha ha'
  have hp := pow_pos2 (min j 64)
  have h := Int.mul_ediv_add_emod (sizeI a) (2 ^ min j 64)
  have q0 : 0 ≤ sizeI a / 2 ^ min j 64 := Int.ediv_nonneg s0 (by omega)
  have q1 : sizeI a / 2 ^ min j 64 ≤ sizeI a := Int.ediv_le_self _ s0
  have r0 := Int.emod_nonneg (sizeI a) (show (2 : Int) ^ min j 64 ≠ 0 by omega)
  have qp : 0 ≤ sizeI a / 2 ^ min j 64 * 2 ^ min j 64 := Int.mul_nonneg q0 (by omega)
  rw [Int.mul_comm] at h
  have e : sizeI a - sizeI a / 2 ^ min j 64 * 2 ^ min j 64 = sizeI a % 2 ^ min j 64 := by omega
  refine ⟨q0, q1, by omega, by omega, qp, by omega, ?_⟩
  rw [e, rest_div _ _ _ s0 hp, ← hx, sign_size, shift_far a j ha ha']
theorem shift_over (a : Int) (j : Nat) (x : Bool) (hx : decide (a < 0) = x) (ha : -9223372036854775808 ≤ a) (ha' : a ≤ 9223372036854775807) (h : 9223372036854775807 / 2 ^ min j 64 < sizeI a) : cutI (signI x 18446744073709551615) = cutI (a * 2 ^ j) := by
  have hp := pow_pos2 (min j 64)
  have h1 : 9223372036854775807 < sizeI a * 2 ^ min j 64 := (Int.ediv_lt_iff_lt_mul hp).mp h
  have h3 : 0 < sizeI a := by
    have : 0 ≤ (9223372036854775807 : Int) / 2 ^ min j 64 := Int.ediv_nonneg (by decide) (by omega)
    omega
  have h2 : sizeI a * 2 ^ min j 64 ≤ sizeI a * 2 ^ j := Int.mul_le_mul_of_nonneg_left (pow_min j) (by omega)
  subst hx
  by_cases hn : a < 0
  · rw [sizeI_neg hn] at h1 h2
    simp only [Int.neg_mul] at h1 h2
    rw [show decide (a < 0) = true by simpa using hn]
    exact most_down _ (by omega)
  · rw [sizeI_pos (by omega)] at h1 h2
    rw [show decide (a < 0) = false by simpa using hn]
    exact most_up _ (by omega)
theorem shift_up (a : Int) (j : Nat) (x : Bool) (hx : decide (a < 0) = x) (ha : -9223372036854775808 ≤ a) (ha' : a ≤ 9223372036854775807) (h : sizeI a ≤ 9223372036854775807 / 2 ^ min j 64) :
    0 ≤ sizeI a * 2 ^ min j 64 ∧ sizeI a * 2 ^ min j 64 ≤ 9223372036854775807 ∧ cutI (restI x (sizeI a * 2 ^ min j 64) 0) = cutI (a * 2 ^ j) := by
  obtain ⟨s0, s1⟩ := sizeI_range a ha ha'
  have hp := pow_pos2 (min j 64)
  have h1 : sizeI a * 2 ^ min j 64 ≤ 9223372036854775807 := (Int.le_ediv_iff_mul_le hp).mp h
  refine ⟨Int.mul_nonneg s0 (by omega), h1, ?_⟩
  have e : a * 2 ^ min j 64 = a * 2 ^ j := by
    by_cases hj : j ≤ 64
    · rw [Nat.min_eq_left hj]
    · rw [Nat.min_eq_right (by omega)] at h1
      have : sizeI a = 0 := by omega
      have : a = 0 := by unfold sizeI at this; omega
      rw [this]; simp
  have e2 : restI x (sizeI a * 2 ^ min j 64) 0 = a * 2 ^ min j 64 := by
    subst hx
    by_cases hn : a < 0 <;> simp [restI, sizeI, hn, Int.neg_mul]
  rw [e2, e]
theorem divI_range (a b : Int) : -9223372036854775807 ≤ divI a b ∧ divI a b ≤ 9223372036854775807 := by
  unfold divI endI
  split
  · split
    · omega
    · split <;> omega
  · split <;> exact cutI_range _
theorem shiftI_range (a n : Int) : -9223372036854775807 ≤ shiftI a n ∧ shiftI a n ≤ 9223372036854775807 := by
  unfold shiftI; split <;> exact cutI_range _
end Go.Proofs.YtlidlmgmijndcaaGreat.W

