import Derived.Test.YtekdablolacgfaaRows
import Derived.Test.YtekdablolacgfaaFdefs
import Derived.Test.YtekdablolacgfaaWideC
import Derived.Test.YtekdablolacgfaaWideR
import Derived.Test.YtekdablolacgfaaWideS
import Derived.WalkSpells
import Derived.WalkLawsBesides
import Derived.Lib.Hide
import Derived.Handy
namespace Go.Proofs.Ytekdablolacgfaa.W
open Go.RowKit
set_option linter.unusedVariables false

theorem rless_val (a b c d : Int) (v : Bool) (h : lessB a b c d = v) (w : World) :
    Calls Try.prog 67 #[.int .u64 a, .int .u64 b, .int .u64 c, .int .u64 d] w fun e w' => e = .returned (.bool v) ∧ w = w' := by
  rw [← h]; exact rless_any a b c d w
set_option maxHeartbeats 400000 in
theorem rsqrt_any (hi lo : Int) (h0 : 0 ≤ hi) (h1 : hi < 18446744073709551616) (h2 : 0 ≤ lo) (h3 : lo < 18446744073709551616) (w : World) :
    Calls Try.prog 53 #[.int .u64 hi, .int .u64 lo] w fun e w' => e = .returned (.int .u64 (sqrtI hi lo)) ∧ w = w' := by
  go_enter Try.func53, Try.ntmps53
  go_wp2
  go_loop [5, 6] (fun q i => ∃ (k : Nat) (r : Int), k ≤ 64 ∧ i = .int .i64 (63 - (k : Int)) ∧ q = .int .u64 r ∧ RootAt (sqrtI hi lo) k r) (fun _ i => (intOf i + 1).toNat)
  case atStart => exact ⟨0, 0, by omega, rfl, rfl, RootAt.first _ (sqrtI_nonneg _ _) (sqrtI_lt _ _ h0 h1 h2 h3)⟩
  case round =>
    obtain ⟨k, r, hk, rfl, rfl, hR⟩ := hrel
    by_cases hlt : k < 64
    · have hk0 : (0 : Int) ≤ 63 - (k : Int) := by omega
      have ek : (63 - (k : Int)).toNat = 63 - k := by omega
      obtain ⟨ho, hb⟩ := or_bit r (63 - k) (by omega) hR.1 hR.2.1 (hR.mod hlt)
      rw [← ek] at ho
      have HO := Lib.hid ho
      have EK := Lib.hid ek
      clear ho
      rw [ek] at *
      have HO : Hid (bits BinOp.or IntKind.u64 r (IntKind.u64.wrap (2 ^ (63 - k))) = r + 2 ^ (63 - k)) := by
        have := HO.out; rwa [EK.out] at this
      clear ek
      go_wp2_with fail
      rw [HO.out]
      have hp := pow_pos2 (63 - k)
      have hr0 := hR.1
      obtain ⟨t, ht⟩ : ∃ t, r + 2 ^ (63 - k) = t := ⟨_, rfl⟩
      rw [ht]
      rw [ht] at hb
      have ht0 : 0 ≤ t := by omega
      have HT := Lib.hid ht
      clear ht hr0 hp EK
      refine (rmul_any t t ht0 hb ht0 hb _).mono ?_
      rintro e w1 ⟨rfl, rfl⟩
      go_wp2_with fail
      have hl := less_sq hi lo t h0 h2 h3 ht0
      by_cases hs : sqrtI hi lo < t
      · refine (rless_val _ _ _ _ true (by rw [hl]; simpa using hs) _).mono ?_
        rintro e w2 ⟨rfl, rfl⟩
        clear hl
        have hd := hR.down hlt (by rw [HT.out]; exact hs)
        go_wp2_with fail
        go_round
        case rel => exact ⟨k + 1, r, by omega, by go_num, rfl, hd⟩
        case measure => simp [intOf]; omega
      · refine (rless_val _ _ _ _ false (by rw [hl]; simpa using hs) _).mono ?_
        rintro e w2 ⟨rfl, rfl⟩
        clear hl
        have hu : RootAt (sqrtI hi lo) (k + 1) t := by
          have := hR.up hlt (by rw [HT.out]; exact hb) (by rw [HT.out]; omega)
          rwa [HT.out] at this
        go_wp2_with fail
        go_round
        case rel => exact ⟨k + 1, t, by omega, by go_num, rfl, hu⟩
        case measure => simp [intOf]; omega
    · obtain rfl : k = 64 := by omega
      go_wp2_with fail
      go_ret
      exact ⟨ret1 hR.last, rfl⟩

set_option maxHeartbeats 400000 in
theorem rdiv_no (hi lo d : Int) (h : d ≤ hi) (w : World) :
    Calls Try.prog 46 #[.int .u64 hi, .int .u64 lo, .int .u64 d] w fun e w' => e = .returned (.tuple #[.int .u64 0, .int .u64 0, .bool false]) ∧ w = w' := by
  go_enter Try.func46, Try.ntmps46
  go_wp2
  go_ret3
  exact ⟨rfl, rfl⟩
/-- So far divided: quotient and rest of the upper bits. -/
structure DivAt (N d : Int) (j : Nat) (q r : Int) : Prop where
  q0 : 0 ≤ q
  r0 : 0 ≤ r
  r1 : r < d
  sum : q * d + r = N / 2 ^ j
theorem DivAt.last {N d q r : Int} (D : DivAt N d 0 q r) : q = N / d ∧ r = N % d := by
  have h := D.sum
  have r0 := D.r0
  have r1 := D.r1
  simp at h
  have e1 : N / d = q := by
    rw [← h, Int.add_comm, Int.add_mul_ediv_right _ _ (by omega), Int.ediv_eq_zero_of_lt r0 r1]; omega
  refine ⟨e1.symm, ?_⟩
  have := Int.mul_ediv_add_emod N d
  rw [e1, Int.mul_comm] at this
  omega
theorem DivAt.first (hi lo d : Int) (h0 : 0 ≤ hi) (hd : hi < d) (l0 : 0 ≤ lo) (l1 : lo < 18446744073709551616) : DivAt (hi * 18446744073709551616 + lo) d 64 0 hi := by
  refine ⟨by omega, h0, hd, ?_⟩
  rw [show (2 : Int) ^ 64 = 18446744073709551616 from rfl]; omega
theorem DivAt.bit (hi lo : Int) (i : Nat) (hi' : i ≤ 63) (h0 : 0 ≤ hi) (l0 : 0 ≤ lo) : (hi * 18446744073709551616 + lo) / 2 ^ i = 2 * ((hi * 18446744073709551616 + lo) / 2 ^ (i + 1)) + lo / 2 ^ i % 2 := by
  have h := half_pow (hi * 18446744073709551616 + lo) i (by omega)
  have hp := pow_pos2 i
  have e : (hi * 18446744073709551616 + lo) / 2 ^ i = hi * 2 ^ (63 - i) * 2 + lo / 2 ^ i := by
    have : hi * 18446744073709551616 = 2 ^ i * (hi * 2 ^ (63 - i) * 2) := by
      have e3 : (2 : Int) ^ i * 2 ^ (63 - i) = 9223372036854775808 := by
        rw [← Int.pow_add, show i + (63 - i) = 63 from by omega]; rfl
      have : (2 : Int) ^ i * (hi * 2 ^ (63 - i) * 2) = 2 ^ i * 2 ^ (63 - i) * (hi * 2) := by grind
      rw [this, e3]; omega
    rw [this, Int.add_comm, Int.add_mul_ediv_left _ _ (by omega)]; omega
  omega
theorem DivAt.small {N d : Int} {i : Nat} {q r : Int} (D : DivAt N d (i + 1) q r) (hN : N < d * 18446744073709551616) (h0 : 0 ≤ N) : q < 9223372036854775808 := by
  have h := D.sum
  have r0 := D.r0
  have r1 := D.r1
  have hp := pow_pos2 i
  have e : N / 2 ^ (i + 1) ≤ N / 2 := by
    have : N / 2 ^ (i + 1) = N / 2 / 2 ^ i := by rw [Int.pow_succ, Int.mul_comm, Int.ediv_ediv_of_nonneg (by omega)]
    rw [this]; exact Int.ediv_le_self _ (by omega)
  apply Int.lt_of_not_ge
  intro hge
  have := Int.mul_le_mul_of_nonneg_right hge (show 0 ≤ d by omega)
  omega
theorem DivAt.down {N d : Int} {i : Nat} {q r b : Int} (D : DivAt N d (i + 1) q r) (hb : N / 2 ^ i = 2 * (N / 2 ^ (i + 1)) + b) (b0 : 0 ≤ b) (h : 2 * r + b < d) : DivAt N d i (q * 2) (2 * r + b) := by
  have s := D.sum
  have := D.q0
  have := D.r0
  refine ⟨by omega, by omega, h, ?_⟩
  have : q * 2 * d = 2 * (q * d) := by grind
  omega
theorem DivAt.up {N d : Int} {i : Nat} {q r b : Int} (D : DivAt N d (i + 1) q r) (hb : N / 2 ^ i = 2 * (N / 2 ^ (i + 1)) + b) (b0 : 0 ≤ b) (b1 : b ≤ 1) (h : d ≤ 2 * r + b) : DivAt N d i (q * 2 + 1) (2 * r + b - d) := by
  have s := D.sum
  have := D.q0
  have := D.r0
  have := D.r1
  refine ⟨by omega, by omega, by omega, ?_⟩
  have : (q * 2 + 1) * d = 2 * (q * d) + d := by grind
  omega
set_option maxHeartbeats 400000 in
theorem rdiv_yes (hi lo d : Int) (h0 : 0 ≤ hi) (hd : hi < d) (hd' : d < 18446744073709551616) (l0 : 0 ≤ lo) (l1 : lo < 18446744073709551616) (w : World) :
    Calls Try.prog 46 #[.int .u64 hi, .int .u64 lo, .int .u64 d] w fun e w' => e = .returned (.tuple #[.int .u64 ((hi * 18446744073709551616 + lo) / d), .int .u64 ((hi * 18446744073709551616 + lo) % d), .bool true]) ∧ w = w' := by
  go_enter Try.func46, Try.ntmps46
  go_wp2
  go_loop [9, 10, 11] (fun a b i => ∃ (j : Nat) (q r : Int), j ≤ 64 ∧ i = .int .i64 ((j : Int) - 1) ∧ a = .int .u64 q ∧ b = .int .u64 r ∧ DivAt (hi * 18446744073709551616 + lo) d j q r) (fun _ _ i => (intOf i + 1).toNat)
  case atStart => exact ⟨64, _, _, by omega, rfl, rfl, rfl, DivAt.first hi lo d h0 hd l0 l1⟩
  case round =>
    obtain ⟨j, q, r, hj, rfl, rfl, rfl, D⟩ := hrel
    by_cases hz : j = 0
    · subst hz
      have E := Lib.hid D.last
      go_wp2_with fail
      go_ret3
      exact ⟨ret3 E.out.1 E.out.2 rfl, rfl⟩
    · obtain ⟨i, rfl⟩ : ∃ i, j = i + 1 := ⟨j - 1, by omega⟩
      have r0 := D.r0
      have r1 := D.r1
      have q0 := D.q0
      have q1 := D.small (by omega) (by omega)
      have B := Lib.hid (DivAt.bit hi lo i (by omega) h0 l0)
      have b0 := Int.emod_nonneg (lo / 2 ^ i) (show (2 : Int) ≠ 0 by decide)
      have b1 := Int.emod_lt_of_pos (lo / 2 ^ i) (show (0 : Int) < 2 by decide)
      have hq1 := Lib.hid (or_one (q * 2) 1 (by omega) (by omega) (by omega) (by omega) (by omega))
      have i0 : (0 : Int) ≤ i := by omega
      have i1 : (i : Int) ≤ 63 := by omega
      by_cases hr : r < 9223372036854775808
      · have hbit : r / 2 ^ (63 : Int).toNat % 2 = 0 := by rw [show (2 : Int) ^ (63 : Int).toNat = 9223372036854775808 from rfl]; omega
        have HB := Lib.hid hbit
        clear hbit
        go_wp2_with fail
        refine (bit_val r 63 0 r0 (by omega) (by omega) (by omega) HB.out _).mono ?_
        rintro e w1 ⟨rfl, rfl⟩
        go_wp2_with fail
        refine (bit_val lo i _ l0 l1 i0 i1 rfl _).mono ?_
        rintro e w1 ⟨rfl, rfl⟩
        rw [show ((i : Int)).toNat = i from by omega]
        generalize lo / 2 ^ i % 2 = b at *
        have hq2 := Lib.hid (or_one (r * 2) b (by omega) (by omega) (by omega) b0 (by omega))
        go_wp2_with fail
        · rw [hq2.out, hq1.out] at *
          have hge : d ≤ r * 2 + b := by assumption
          have N := D.up B.out b0 (by omega) (by omega)
          rw [show 2 * r + b - d = r * 2 + b - d from by omega] at N
          rw [IntWalk.u64_in (r * 2 + b - d) (by omega)]
          go_round
          case rel => exact ⟨i, q * 2 + 1, r * 2 + b - d, by omega, rfl, rfl, rfl, N⟩
          case measure => simp [intOf]
        · rw [hq2.out] at *
          have hlt : r * 2 + b < d := by assumption
          have N := D.down B.out b0 (by omega)
          rw [show 2 * r + b = r * 2 + b from by omega] at N
          go_round
          case rel => exact ⟨i, q * 2, r * 2 + b, by omega, rfl, rfl, rfl, N⟩
          case measure => simp [intOf]
      · have hbit : r / 2 ^ (63 : Int).toNat % 2 = 1 := by rw [show (2 : Int) ^ (63 : Int).toNat = 9223372036854775808 from rfl]; omega
        have HB := Lib.hid hbit
        clear hbit
        go_wp2_with fail
        refine (bit_val r 63 1 r0 (by omega) (by omega) (by omega) HB.out _).mono ?_
        rintro e w1 ⟨rfl, rfl⟩
        go_wp2_with fail
        refine (bit_val lo i _ l0 l1 i0 i1 rfl _).mono ?_
        rintro e w1 ⟨rfl, rfl⟩
        rw [show ((i : Int)).toNat = i from by omega]
        generalize lo / 2 ^ i % 2 = b at *
        have hq2 := Lib.hid (or_one (IntKind.u64.wrap (r * 2)) b (by rw [IntKind.wrap_u64]; omega) (by rw [IntKind.wrap_u64]; omega) (by rw [IntKind.wrap_u64]; omega) b0 (by omega))
        go_wp2_with fail
        rw [hq2.out, hq1.out] at *
        have N := D.up B.out b0 (by omega) (by omega)
        rw [show IntKind.u64.wrap (IntKind.u64.wrap (r * 2) + b - d) = 2 * r + b - d from by simp only [IntKind.wrap_u64]; omega]
        go_round
        case rel => exact ⟨i, q * 2 + 1, 2 * r + b - d, by omega, rfl, rfl, rfl, N⟩
        case measure => simp [intOf]
end Go.Proofs.Ytekdablolacgfaa.W
