import Derived.Test.YtefjdmbioclddaaRows
import Derived.Test.YtefjdmbioclddaaFdefs
import Derived.Test.YtefjdmbioclddaaWideC
import Derived.Test.YtefjdmbioclddaaWideR
import Derived.Test.YtefjdmbioclddaaWideS
import Derived.WalkSpells
import Derived.WalkLawsBesides
import Derived.Lib.Hide
import Derived.Handy
namespace Go.Proofs.Ytefjdmbioclddaa.W
open Go.RowKit
set_option linter.unusedVariables false

theorem rless_val (a b c d : Int) (v : Bool) (h : lessB a b c d = v) (w : World) :
    Calls Try.prog 70 #[.int .u64 a, .int .u64 b, .int .u64 c, .int .u64 d] w fun e w' => e = .returned (.bool v) ∧ w = w' := by
  rw [← h]; exact rless_any a b c d w
set_option maxHeartbeats 400000 in
theorem rsqrt_any (hi lo : Int) (h0 : 0 ≤ hi) (h1 : hi < 18446744073709551616) (h2 : 0 ≤ lo) (h3 : lo < 18446744073709551616) (w : World) :
    Calls Try.prog 62 #[.int .u64 hi, .int .u64 lo] w fun e w' => e = .returned (.int .u64 (sqrtI hi lo)) ∧ w = w' := by
  go_enter Try.func62, Try.ntmps62
  go_wp2
  go_loop [5, 6] (fun q i => ∃ (k : Nat) (r : Int), k ≤ 64 ∧ i = .int .i64 (63 - (k : Int)) ∧ q = .int .u64 r ∧ RootAt (sqrtI hi lo) k r) (fun _ i => (intOf i + 1).toNat)
  case atStart => exact ⟨0, 0, by omega, rfl, rfl, RootAt.first _ (sqrtI_nonneg _ _) (sqrtI_lt _ _ h0 h1 h2 h3)⟩
  case round =>
    obtain ⟨k, r, hk, rfl, rfl, hR⟩ := hrel
    by_cases hlt : k < 64
    · have hk0 : (0 : Int) ≤ 63 - (k : Int) := by omega
      have ek : (63 - (k : Int)).toNat = 63 - k := by omega
      obtain ⟨ho, hb⟩ := or_bit r (63 - k) (by omega) hR.1 hR.2.1 (hR.mod hlt)
      rw [← ek] at ho
      have HO := Lib.hid ho
      have EK := Lib.hid ek
      clear ho
      rw [ek] at *
      have HO : Hid (bits BinOp.or IntKind.u64 r (IntKind.u64.wrap (2 ^ (63 - k))) = r + 2 ^ (63 - k)) := by
        have := HO.out; rwa [EK.out] at this
      clear ek
      go_wp2_with fail
      rw [HO.out]
      have hp := pow_pos2 (63 - k)
      have hr0 := hR.1
      obtain ⟨t, ht⟩ : ∃ t, r + 2 ^ (63 - k) = t := ⟨_, rfl⟩
      rw [ht]
      rw [ht] at hb
      have ht0 : 0 ≤ t := by omega
      have HT := Lib.hid ht
      clear ht hr0 hp EK
      refine (rmul_any t t ht0 hb ht0 hb _).mono ?_
      rintro e w1 ⟨rfl, rfl⟩
      go_wp2_with fail
      have hl := less_sq hi lo t h0 h2 h3 ht0
      by_cases hs : sqrtI hi lo < t
      · refine (rless_val _ _ _ _ true (by rw [hl]; simpa using hs) _).mono ?_
        rintro e w2 ⟨rfl, rfl⟩
        clear hl
        have hd := hR.down hlt (by rw [HT.out]; exact hs)
        go_wp2_with fail
        go_round
        case rel => exact ⟨k + 1, r, by omega, by go_num, rfl, hd⟩
        case measure => simp [intOf]; omega
      · refine (rless_val _ _ _ _ false (by rw [hl]; simpa using hs) _).mono ?_
        rintro e w2 ⟨rfl, rfl⟩
        clear hl
        have hu : RootAt (sqrtI hi lo) (k + 1) t := by
          have := hR.up hlt (by rw [HT.out]; exact hb) (by rw [HT.out]; omega)
          rwa [HT.out] at this
        go_wp2_with fail
        go_round
        case rel => exact ⟨k + 1, t, by omega, by go_num, rfl, hu⟩
        case measure => simp [intOf]; omega
    · obtain rfl : k = 64 := by omega
      go_wp2_with fail
      go_ret
      exact ⟨ret1 hR.last, rfl⟩

end Go.Proofs.Ytefjdmbioclddaa.W
