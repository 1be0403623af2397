import Derived.Test.YtekdablolacgfaaRows
import Derived.Test.YtekdablolacgfaaFdefs
import Derived.Test.YtekdablolacgfaaWideC
import Derived.WalkSpells
import Derived.WalkLawsBesides
import Derived.Lib.Hide
import Derived.Handy
namespace Go.Proofs.Ytekdablolacgfaa.W
open Go.RowKit
set_option linter.unusedVariables false

theorem and_one (n : Int) (h0 : 0 ≤ n) (h1 : n < 18446744073709551616) : bits .and .u64 n 1 = n % 2 := by
  obtain ⟨m, rfl⟩ := Int.eq_ofNat_of_zero_le h0
  have h := bits_and_u64_nat m 1 (by omega) (by omega)
  rw [show ((1 : Nat) : Int) = 1 from rfl] at h
  rw [h, Nat.and_one_is_mod]; omega
theorem or_one (n : Int) (b : Int) (h0 : 0 ≤ n) (h1 : n < 18446744073709551616) (he : n % 2 = 0) (hb : 0 ≤ b) (hb1 : b ≤ 1) : bits .or .u64 n b = n + b := by
  obtain ⟨m, rfl⟩ := Int.eq_ofNat_of_zero_le h0
  obtain ⟨c, rfl⟩ := Int.eq_ofNat_of_zero_le hb
  have h := bits_or_u64_nat m c (by omega) (by omega)
  rw [h]
  have e := Nat.two_pow_add_eq_or_of_lt (b := c) (i := 1) (by omega) (m / 2)
  rw [show 2 ^ 1 * (m / 2) = m from by omega] at e
  rw [← e]; omega

set_option maxHeartbeats 400000 in
theorem bit_any (n : Int) (k : Int) (h0 : 0 ≤ n) (h1 : n < 18446744073709551616) (hk : 0 ≤ k) (hk' : k ≤ 63) (w : World) :
    Calls Try.prog 62 #[.int .u64 n, .int .i64 k] w fun e w' => e = .returned (.int .u64 (n / 2 ^ k.toNat % 2)) ∧ w = w' := by
  have e := and_one (n / 2 ^ k.toNat) (Int.ediv_nonneg h0 (by have := pow_pos2 k.toNat; omega)) (by
    have hp := pow_pos2 k.toNat
    have := Int.ediv_le_self (2 ^ k.toNat) h0
    omega)
  have E := Lib.hid e
  clear e
  go_enter Try.func62, Try.ntmps62
  go_wp2
  go_ret
  exact ⟨ret1 E.out, rfl⟩

theorem bit_val (n : Int) (k v : Int) (h0 : 0 ≤ n) (h1 : n < 18446744073709551616) (hk : 0 ≤ k) (hk' : k ≤ 63) (hv : n / 2 ^ k.toNat % 2 = v) (w : World) :
    Calls Try.prog 62 #[.int .u64 n, .int .i64 k] w fun e w' => e = .returned (.int .u64 v) ∧ w = w' := by
  rw [← hv]; exact bit_any n k h0 h1 hk hk' w
end Go.Proofs.Ytekdablolacgfaa.W
