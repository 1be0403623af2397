import Derived.Test.YtlidlmgmijndcaaGreatRows
import Derived.Test.YtlidlmgmijndcaaGreatWdefs
import Derived.Test.YtlidlmgmijndcaaGreatFdefs
import Derived.WalkSpells
import Derived.WalkLawsBesides
import Derived.Lib.Hide
import Derived.Handy
namespace Go.Proofs.YtlidlmgmijndcaaGreat.W
open Go.RowKit
set_option linter.unusedVariables false

set_option maxHeartbeats 400000 in
theorem log_any (n : Int) (h0 : 0 ≤ n) (h1 : n < 18446744073709551616) (w : World) :
    Calls Tryz.prog 94 #[.int .u64 n] w fun e w' => e = .returned (.int .i64 (logI n)) ∧ w = w' := by
  go_enter Tryz.func94, Tryz.ntmps94
  go_wp2
  go_step3
  go_wp2
  go_step3
  go_wp2
  go_loop [3, 5] (fun h i => ∃ k : Nat, k ≤ 64 ∧ i = .int .i64 k ∧ h = .int .i64 ((k : Int) - 1) ∧ Hid (∀ j, k = j + 1 → (2 : Int) ^ j ≤ n)) (fun _ i => 64 - (intOf i).toNat)
  case atStart => exact ⟨0, by omega, rfl, rfl, fun j h => by omega⟩
  case round =>
    obtain ⟨k, hk, rfl, rfl, hh⟩ := hrel
    have hz := Lib.hid (div_zero n h0 k)
    by_cases hlt : k < 64
    · go_wp2
      · go_ret
        have ht : (n / 2 ^ k == 0) = true := by assumption
        rw [hz.out] at ht
        exact ⟨ret1 (logI_of n h0 k (of_decide_eq_true ht) hh.out).symm, rfl⟩
      · have ht : (n / 2 ^ k == 0) = false := by assumption
        rw [hz.out] at ht
        have ht := of_decide_eq_false ht
        go_round
        case rel => exact ⟨k + 1, by omega, by go_num, by go_num, fun j h => by obtain rfl : k = j := by omega
                                                                                omega⟩
        case measure => simp [intOf]; omega
    · go_wp2
      go_ret
      obtain rfl : k = 64 := by omega
      exact ⟨ret1 (logI_of n h0 64 (by simpa using h1) hh.out).symm, rfl⟩
end Go.Proofs.YtlidlmgmijndcaaGreat.W
