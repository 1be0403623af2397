/- Headers that are compared; a byte that is turned. -/
import Derived.Test.YtcfdggeoecdnnaaHdI
import Derived.Test.YtcfdggeoecdnnaaHdB
import Derived.Test.YtcfdggeoecdnnaaHdR
import Derived.Lib.Zigzag
import Derived.Below
import Derived.Lib.QuietBelow
import Derived.BigQuiet
namespace Go.Proofs.Ytcfdggeoecdnnaa.W
open Go.RowKit
set_option linter.unusedVariables false
set_option linter.unusedSimpArgs false
theorem xor8 (c b : Int) (c0 : 0 ≤ c) (c1 : c < 256) (b0 : 0 < b) (b1 : b < 256) : 0 ≤ bits .xor .u8 c b ∧ bits .xor .u8 c b < 256 ∧ bits .xor .u8 c b ≠ c := by
  obtain ⟨n, rfl⟩ := Int.eq_ofNat_of_zero_le c0
  obtain ⟨m, rfl⟩ := Int.eq_ofNat_of_zero_le (show 0 ≤ b by omega)
  have e : bits .xor .u8 (n : Int) (m : Int) = ((n ^^^ m : Nat) : Int) := by
    have hx : n ^^^ m < 2 ^ 8 := Nat.xor_lt_two_pow (by omega) (by omega)
    have h1 : (BitVec.ofInt 8 (n : Int)).toNat = n := by
      rw [BitVec.ofInt_natCast, BitVec.toNat_ofNat]; exact Nat.mod_eq_of_lt (by omega)
    have h2 : (BitVec.ofInt 8 (m : Int)).toNat = m := by
      rw [BitVec.ofInt_natCast, BitVec.toNat_ofNat]; exact Nat.mod_eq_of_lt (by omega)
    show IntKind.u8.wrap ((BitVec.ofInt 8 (n : Int) ^^^ BitVec.ofInt 8 (m : Int)).toNat : Int) = _
    rw [BitVec.toNat_xor, h1, h2, IntKind.wrap_u8]
    omega
  have h1 : n ^^^ m < 2 ^ 8 := Nat.xor_lt_two_pow (by omega) (by omega)
  rw [e]
  refine ⟨by omega, by omega, ?_⟩
  intro h
  have h2 : n ^^^ m = n := by exact_mod_cast h
  have h3 : m = 0 := by
    have := congrArg (n ^^^ ·) h2
    simp only [← Nat.xor_assoc, Nat.xor_self, Nat.zero_xor] at this
    exact this
  omega
end Go.Proofs.Ytcfdggeoecdnnaa.W
