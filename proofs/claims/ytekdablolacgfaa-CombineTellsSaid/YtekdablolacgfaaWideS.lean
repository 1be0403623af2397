import Derived.Test.YtekdablolacgfaaRows
import Derived.Test.YtekdablolacgfaaFdefs
import Derived.Test.YtekdablolacgfaaWideC
import Derived.Test.YtekdablolacgfaaWideR
import Derived.WalkSpells
import Derived.WalkLawsBesides
import Derived.Lib.Hide
import Derived.Handy
namespace Go.Proofs.Ytekdablolacgfaa.W
open Go.RowKit
set_option linter.unusedVariables false

theorem half_pow (b : Int) (j : Nat) (h : 0 ≤ b) : b / 2 ^ j = 2 * (b / 2 ^ (j + 1)) + b / 2 ^ j % 2 := by
  have : b / 2 ^ (j + 1) = b / 2 ^ j / 2 := by
    rw [Int.pow_succ, Int.ediv_ediv_of_nonneg (by have := pow_pos2 j; omega)]
  omega
theorem pow_le_of (b : Int) (j : Nat) (h : 0 ≤ b) : 0 ≤ b / 2 ^ j ∧ b / 2 ^ j ≤ b :=
  ⟨Int.ediv_nonneg h (by have := pow_pos2 j; omega), Int.ediv_le_self _ h⟩
theorem mul_double (a c : Int) (h0 : 0 ≤ a) (h1 : a < 18446744073709551616) (h2 : 0 ≤ c) (h3 : 2 * c < 18446744073709551616) :
    plusH (mulH a c) (mulL a c) (mulH a c) (mulL a c) = mulH a (2 * c) ∧ plusL (mulL a c) (mulL a c) = mulL a (2 * c) := by
  unfold plusH plusL mulH mulL
  have e : a * (2 * c) = 2 * (a * c) := by grind
  have b0 := Int.mul_nonneg h0 h2
  have b1 : a * (2 * c) ≤ 18446744073709551615 * (2 * c) := Int.mul_le_mul_of_nonneg_right (by omega) (by omega)
  rw [e] at *
  generalize a * c = p at *
  omega
theorem mul_more (a c : Int) (h0 : 0 ≤ a) (h1 : a < 18446744073709551616) (h2 : 0 ≤ c) (h3 : c + 1 < 18446744073709551616) :
    plusH (mulH a c) (mulL a c) 0 a = mulH a (c + 1) ∧ plusL (mulL a c) a = mulL a (c + 1) := by
  unfold plusH plusL mulH mulL
  have e : a * (c + 1) = a * c + a := by grind
  have b0 := Int.mul_nonneg h0 h2
  have b1 : a * (c + 1) ≤ 18446744073709551615 * (c + 1) := Int.mul_le_mul_of_nonneg_right (by omega) (by omega)
  rw [e] at *
  generalize a * c = p at *
  omega
theorem mul_range (a c : Int) (h0 : 0 ≤ a) (h1 : a < 18446744073709551616) (h2 : 0 ≤ c) (h3 : c < 18446744073709551616) :
    0 ≤ mulH a c ∧ mulH a c < 18446744073709551616 ∧ 0 ≤ mulL a c ∧ mulL a c < 18446744073709551616 := by
  unfold mulH mulL
  have b0 := Int.mul_nonneg h0 h2
  have b1 : a * c ≤ 18446744073709551615 * c := Int.mul_le_mul_of_nonneg_right (by omega) (by omega)
  generalize a * c = p at *
  omega

set_option maxHeartbeats 400000 in
theorem rmul_any (a b : Int) (h0 : 0 ≤ a) (h1 : a < 18446744073709551616) (h2 : 0 ≤ b) (h3 : b < 18446744073709551616) (w : World) :
    Calls Try.prog 45 #[.int .u64 a, .int .u64 b] w fun e w' => e = .returned (.tuple #[.int .u64 (mulH a b), .int .u64 (mulL a b)]) ∧ w = w' := by
  go_enter Try.func45, Try.ntmps45
  go_wp2
  go_loop [6, 7, 8] (fun p q i => ∃ j : Nat, j ≤ 64 ∧ i = .int .i64 ((j : Int) - 1) ∧ p = .int .u64 (mulH a (b / 2 ^ j)) ∧ q = .int .u64 (mulL a (b / 2 ^ j))) (fun _ _ i => (intOf i + 1).toNat)
  case atStart =>
    have : b / 2 ^ 64 = 0 := Int.ediv_eq_zero_of_lt h2 (by simpa using h3)
    exact ⟨64, by omega, rfl, by rw [this]; simp [mulH], by rw [this]; simp [mulL]⟩
  case round =>
    obtain ⟨j, hj, rfl, rfl, rfl⟩ := hrel
    by_cases hz : j = 0
    · subst hz
      go_wp2_with fail
      go_ret2
      exact ⟨by simp, rfl⟩
    · obtain ⟨i, rfl⟩ : ∃ i, j = i + 1 := ⟨j - 1, by omega⟩
      have hi : i ≤ 63 := by omega
      have hb := half_pow b i h2
      obtain ⟨l0, l1⟩ := pow_le_of b i h2
      obtain ⟨k0, k1⟩ := pow_le_of b (i + 1) h2
      have hm0 : 0 ≤ b / 2 ^ i % 2 ∧ b / 2 ^ i % 2 ≤ 1 := by omega
      have HB := Lib.hid hb
      have ei : ((i : Int) + 1 - 1).toNat = i := by omega
      obtain ⟨d1, d2⟩ := mul_double a (b / 2 ^ (i + 1)) h0 h1 k0 (by omega)
      obtain ⟨m1, m2⟩ := mul_more a (2 * (b / 2 ^ (i + 1))) h0 h1 (by omega) (by omega)
      obtain ⟨r1, r2, r3, r4⟩ := mul_range a (b / 2 ^ (i + 1)) h0 h1 k0 (by omega)
      obtain ⟨s1, s2, s3, s4⟩ := mul_range a (2 * (b / 2 ^ (i + 1))) h0 h1 (by omega) (by omega)
      have D1 := Lib.hid d1
      have D2 := Lib.hid d2
      have M1 := Lib.hid m1
      have M2 := Lib.hid m2
      have EI := Lib.hid ei
      clear hb d1 d2 m1 m2 ei
      go_wp2_with fail
      refine (rplus_any _ _ _ _ r1 r2 r3 r4 r1 r2 r3 r4 _).mono ?_
      rintro e w1 ⟨rfl, rfl⟩
      rw [D1.out, D2.out]
      go_wp2_with fail
      by_cases hb1 : b / 2 ^ i % 2 = 1
      · have E : Hid (2 * (b / 2 ^ (i + 1)) + 1 = b / 2 ^ i) := by have := HB.out; show 2 * (b / 2 ^ (i + 1)) + 1 = b / 2 ^ i; omega
        refine (bit_val b _ 1 h2 h3 (by omega) (by omega) (by simpa using hb1) _).mono ?_
        rintro e w1 ⟨rfl, rfl⟩
        clear hb1
        go_wp2_with fail
        refine (rplus_any _ _ _ _ s1 s2 s3 s4 (by omega) (by omega) h0 h1 _).mono ?_
        rintro e w1 ⟨rfl, rfl⟩
        rw [M1.out, M2.out]
        go_wp2_with fail
        rw [E.out]
        go_round
        case rel => exact ⟨i, by omega, rfl, rfl, rfl⟩
        case measure => simp [intOf]
      · have E : Hid (2 * (b / 2 ^ (i + 1)) = b / 2 ^ i) := by have := HB.out; show 2 * (b / 2 ^ (i + 1)) = b / 2 ^ i; omega
        refine (bit_val b _ 0 h2 h3 (by omega) (by omega) (by simp; omega) _).mono ?_
        rintro e w1 ⟨rfl, rfl⟩
        clear hb1
        go_wp2_with fail
        rw [E.out]
        go_round
        case rel => exact ⟨i, by omega, rfl, rfl, rfl⟩
        case measure => simp [intOf]
end Go.Proofs.Ytekdablolacgfaa.W
