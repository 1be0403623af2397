import Derived.Test.YtlnoclffgmcgoaaRows
import Derived.Test.YtlnoclffgmcgoaaWlog
import Derived.Test.YtlnoclffgmcgoaaWideC
import Derived.WalkSpells
import Derived.WalkLawsBesides
import Derived.Lib.Hide
import Derived.Handy
namespace Go.Proofs.Ytlnoclffgmcgoaa.W
open Go.RowKit
set_option linter.unusedVariables false

theorem and_one (n : Int) (h0 : 0 ≤ n) (h1 : n < 18446744073709551616) : bits .and .u64 n 1 = n % 2 := by
  obtain ⟨m, rfl⟩ := Int.eq_ofNat_of_zero_le h0
  have h := bits_and_u64_nat m 1 (by omega) (by omega)
  rw [show ((1 : Nat) : Int) = 1 from rfl] at h
  rw [h, Nat.and_one_is_mod]; omega
theorem or_one (n : Int) (b : Int) (h0 : 0 ≤ n) (h1 : n < 18446744073709551616) (he : n % 2 = 0) (hb : 0 ≤ b) (hb1 : b ≤ 1) : bits .or .u64 n b = n + b := by
  obtain ⟨m, rfl⟩ := Int.eq_ofNat_of_zero_le h0
  obtain ⟨c, rfl⟩ := Int.eq_ofNat_of_zero_le hb
  have h := bits_or_u64_nat m c (by omega) (by omega)
  rw [h]
  have e := Nat.two_pow_add_eq_or_of_lt (b := c) (i := 1) (by omega) (m / 2)
  rw [show 2 ^ 1 * (m / 2) = m from by omega] at e
  rw [← e]; omega

set_option maxHeartbeats 400000 in
theorem bit_any (n : Int) (k : Int) (h0 : 0 ≤ n) (h1 : n < 18446744073709551616) (hk : 0 ≤ k) (hk' : k ≤ 63) (w : World) :
    Calls Try.prog 57 #[.int .u64 n, .int .i64 k] w fun e w' => e = .returned (.int .u64 (n / 2 ^ k.toNat % 2)) ∧ w = w' := by
  have e := and_one (n / 2 ^ k.toNat) (Int.ediv_nonneg h0 (by have := pow_pos2 k.toNat; omega)) (by
    have hp := pow_pos2 k.toNat
    have := Int.ediv_le_self (2 ^ k.toNat) h0
    omega)
  have E := Lib.hid e
  clear e
  go_enter Try.func57, Try.ntmps57
  go_wp2
  go_ret
  exact ⟨ret1 E.out, rfl⟩

theorem bit_val (n : Int) (k v : Int) (h0 : 0 ≤ n) (h1 : n < 18446744073709551616) (hk : 0 ≤ k) (hk' : k ≤ 63) (hv : n / 2 ^ k.toNat % 2 = v) (w : World) :
    Calls Try.prog 57 #[.int .u64 n, .int .i64 k] w fun e w' => e = .returned (.int .u64 v) ∧ w = w' := by
  rw [← hv]; exact bit_any n k h0 h1 hk hk' w
set_option maxHeartbeats 400000 in
theorem rlog_any (n : Int) (h0 : 0 ≤ n) (h1 : n < 18446744073709551616) (w : World) :
    Calls Try.prog 49 #[.int .u64 n] w fun e w' => e = .returned (.int .i64 (logI n)) ∧ w = w' := by
  go_enter Try.func49, Try.ntmps49
  go_wp2
  go_loop [0, 3] (fun m i => ∃ t : Nat, t ≤ 64 ∧ m = .int .u64 (n / 2 ^ t) ∧ i = .int .i64 ((t : Int) - 1) ∧ Hid (∀ j, t = j + 1 → (2 : Int) ^ j ≤ n)) (fun m _ => (intOf m).toNat)
  case atStart => exact ⟨0, by omega, by simp, rfl, fun j h => by omega⟩
  case round =>
    obtain ⟨t, ht, rfl, rfl, hh⟩ := hrel
    have hp := pow_pos2 t
    have hz := div_zero n h0 t
    have hge : 0 ≤ n / 2 ^ t := Int.ediv_nonneg h0 (by omega)
    by_cases hlt : n < 2 ^ t
    · have hq : n / 2 ^ t = 0 := by rw [decide_eq_true hlt] at hz; simpa using hz
      have L := Lib.hid (logI_of n h0 t hlt hh.out)
      have hq' : ¬ 0 < n / 2 ^ t := by omega
      clear hz hq
      go_wp2
      go_ret
      exact ⟨ret1 L.out.symm, rfl⟩
    · have hq : 0 < n / 2 ^ t := by rw [decide_eq_false hlt] at hz; simp at hz; omega
      have ht63 : t ≤ 63 := by
        apply Nat.le_of_not_lt
        intro h64
        have : (2 : Int) ^ 64 ≤ 2 ^ t := by rw [pow_cast, pow_cast]; exact_mod_cast Nat.pow_le_pow_right (by decide) h64
        simp at this; omega
      have e : Hid (n / 2 ^ t / 2 = n / 2 ^ (t + 1)) := by
        show n / 2 ^ t / 2 = n / 2 ^ (t + 1)
        rw [Int.pow_succ, Int.ediv_ediv_of_nonneg (by omega)]
      clear hz
      go_wp2
      go_round
      case rel => exact ⟨t + 1, by omega, by rw [← e.out], by go_num, fun j h => by obtain rfl : t = j := by omega
                                                                                    omega⟩
      case measure => simp [intOf]; omega
end Go.Proofs.Ytlnoclffgmcgoaa.W
