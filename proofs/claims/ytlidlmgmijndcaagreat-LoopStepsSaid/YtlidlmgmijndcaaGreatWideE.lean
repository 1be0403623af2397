import Derived.Test.YtlidlmgmijndcaaGreatRows
import Derived.Test.YtlidlmgmijndcaaGreatWdefs
import Derived.Test.YtlidlmgmijndcaaGreatFdefs
import Derived.Test.YtlidlmgmijndcaaGreatWideB
import Derived.Test.YtlidlmgmijndcaaGreatWideC
import Derived.WalkSpells
import Derived.WalkLawsBesides
import Derived.Lib.Hide
import Derived.Handy
namespace Go.Proofs.YtlidlmgmijndcaaGreat.W
open Go.RowKit
set_option linter.unusedVariables false

theorem less_val (a b c d : Int) (v : Bool) (h : lessB a b c d = v) (w : World) :
    Calls Tryz.prog 87 #[.int .u64 a, .int .u64 b, .int .u64 c, .int .u64 d] w fun e w' => e = .returned (.bool v) ∧ w = w' := by
  rw [← h]; exact less_any a b c d w
set_option maxHeartbeats 400000 in
theorem sqrt_any (hi lo : Int) (h0 : 0 ≤ hi) (h1 : hi < 18446744073709551616) (h2 : 0 ≤ lo) (h3 : lo < 18446744073709551616) (w : World) :
    Calls Tryz.prog 43 #[.int .u64 hi, .int .u64 lo] w fun e w' => e = .returned (.int .u64 (sqrtI hi lo)) ∧ Below w.heap.size w w' := by
  go_enter Tryz.func43, Tryz.ntmps43
  go_wp2
  go_step3
  go_wp2
  go_step3
  go_wp2
  go_loopw [5, 10] (fun q i wr => ∃ (k : Nat) (r : Int), k ≤ 64 ∧ i = .int .i64 k ∧ q = .int .u64 r ∧ RootAt (sqrtI hi lo) k r ∧ Below w.heap.size w wr) (fun _ i _ => 64 - (intOf i).toNat)
  case atStart => exact ⟨0, 0, by omega, rfl, rfl, RootAt.first _ (sqrtI_nonneg _ _) (sqrtI_lt _ _ h0 h1 h2 h3), Below.refl _ _⟩
  case round =>
    obtain ⟨k, r, hk, rfl, rfl, hR, hB⟩ := hrel
    by_cases hlt : k < 64
    · go_wp2_with fail
      obtain ⟨ho, hb⟩ := or_bit r (63 - k) (by omega) hR.1 hR.2.1 (hR.mod hlt)
      rw [ho]
      have hp := pow_pos2 (63 - k)
      have hr0 := hR.1
      obtain ⟨t, ht⟩ : ∃ t, r + 2 ^ (63 - k) = t := ⟨_, rfl⟩
      rw [ht]
      rw [ht] at hb
      have ht0 : 0 ≤ t := by omega
      have HT := Lib.hid ht
      clear ht ho hr0 hp
      refine (mul_any t t ht0 hb ht0 hb _).mono ?_
      rintro e w1 ⟨rfl, hb1⟩
      go_wp2_with fail
      have hl := less_sq hi lo t h0 h2 h3 ht0
      by_cases hs : sqrtI hi lo < t
      · refine (less_val _ _ _ _ true (by rw [hl]; simpa using hs) _).mono ?_
        rintro e w2 ⟨rfl, rfl⟩
        clear hl
        go_wp2_with fail
        have hd := hR.down hlt (by rw [HT.out]; exact hs)
        go_roundw
        case rel => exact ⟨k + 1, r, by omega, by go_num, rfl, hd, hB.trans (hb1.mono hB.size)⟩
        case measure => simp [intOf]; omega
      · refine (less_val _ _ _ _ false (by rw [hl]; simpa using hs) _).mono ?_
        rintro e w2 ⟨rfl, rfl⟩
        clear hl
        have hu : RootAt (sqrtI hi lo) (k + 1) t := by
          have := hR.up hlt (by rw [HT.out]; exact hb) (by rw [HT.out]; omega)
          rwa [HT.out] at this
        have hB1 := hB.trans (hb1.mono hB.size)
        go_wp2_with fail
        case roundEnd =>
          go_roundw
          case rel => exact ⟨k + 1, t, by omega, by go_num, rfl, hu, hB1⟩
          case measure => simp [intOf]; omega
        case roundEnd =>
          go_roundw
          case rel => exact ⟨k + 1, t, by omega, by go_num, rfl, hu, hB1⟩
          case measure => simp [intOf]; omega
        rw [Exit.noGoto_ret]
        go_ret
        have e1 : mulH t t = hi := by assumption
        have e2 : (mulL t t == lo) = true := by assumption
        exact ⟨ret1 (sq_exact hi lo t h0 h2 ht0 e1 (by simpa using e2)), hB1⟩
    · go_wp2
      rw [Exit.noGoto_ret]
      go_ret
      obtain rfl : k = 64 := by omega
      exact ⟨ret1 hR.last, hB⟩
end Go.Proofs.YtlidlmgmijndcaaGreat.W
