/- Plain facts: how many bits a number has, and a whole root. -/
import Derived.Test.YtfangllkfcmefaaGreatWdefs
import Derived.Laws.Bits64b
import Derived.IntWalk
open Go.RowKit
namespace Go.Proofs.YtfangllkfcmefaaGreat.W
theorem pow_cast (k : Nat) : ((2 : Int) ^ k) = ((2 ^ k : Nat) : Int) := by simp
theorem pow_pos2 (k : Nat) : (0 : Int) < 2 ^ k := by rw [pow_cast]; exact_mod_cast Nat.two_pow_pos k
end Go.Proofs.YtfangllkfcmefaaGreat.W
