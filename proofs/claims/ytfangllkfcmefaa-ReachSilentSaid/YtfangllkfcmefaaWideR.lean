import Derived.Test.YtfangllkfcmefaaRows
import Derived.Test.YtfangllkfcmefaaWlog
import Derived.Test.YtfangllkfcmefaaWdefs
import Derived.WalkSpells
import Derived.WalkLawsBesides
import Derived.Lib.Hide
import Derived.Handy
namespace Go.Proofs.Ytfangllkfcmefaa.W
open Go.RowKit
set_option linter.unusedVariables false

theorem or_one (n : Int) (b : Int) (h0 : 0 ≤ n) (h1 : n < 18446744073709551616) (he : n % 2 = 0) (hb : 0 ≤ b) (hb1 : b ≤ 1) : bits .or .u64 n b = n + b := by
  obtain ⟨m, rfl⟩ := Int.eq_ofNat_of_zero_le h0
  obtain ⟨c, rfl⟩ := Int.eq_ofNat_of_zero_le hb
  have h := bits_or_u64_nat m c (by omega) (by omega)
  rw [h]
  have e := Nat.two_pow_add_eq_or_of_lt (b := c) (i := 1) (by omega) (m / 2)
  rw [show 2 ^ 1 * (m / 2) = m from by omega] at e
  rw [← e]; omega

end Go.Proofs.Ytfangllkfcmefaa.W
