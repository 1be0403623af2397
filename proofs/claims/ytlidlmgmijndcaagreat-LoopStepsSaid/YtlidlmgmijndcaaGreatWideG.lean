import Derived.Test.YtlidlmgmijndcaaGreatRows
import Derived.Test.YtlidlmgmijndcaaGreatFdefs
import Derived.Test.YtlidlmgmijndcaaGreatWideA
import Derived.Test.YtlidlmgmijndcaaGreatWideD
import Derived.Test.YtlidlmgmijndcaaGreatWideF
import Derived.WalkSpells
import Derived.WalkLawsBesides
import Derived.Lib.Hide
import Derived.Handy
import Derived.Deep.DeepCutAuto
import Derived.Deep.RegionWith
namespace Go.Proofs.YtlidlmgmijndcaaGreat.W
open Go.RowKit
set_option linter.unusedVariables false

set_option maxHeartbeats 400000 in
theorem split_exact (a : Int) (h0 : 0 ≤ a) (h1 : a < 18446744073709551616) (w : World) :
    Calls Tryz.prog 84 #[.int .u64 a] w fun e w' => e = .returned (.agg #[.int .u64 (a % 4294967296), .int .u64 (a / 4294967296)]) ∧ w.alloc (.cells #[.int .u64 (a % 4294967296), .int .u64 (a / 4294967296)] 99) = w' := by
  go_enter Tryz.func84, Tryz.ntmps84
  go_wp2
  exact bodyPost_ret (v := .agg #[.int .u64 (a % 4294967296), .int .u64 (a / 4294967296)]) (by simp [results, Tryz.results84, go_sem]) rfl ⟨rfl, rfl⟩
set_option maxHeartbeats 400000 in
theorem div_no (hi lo d : Int) (h : d ≤ hi) (w : World) :
    Calls Tryz.prog 86 #[.int .u64 hi, .int .u64 lo, .int .u64 d] w fun e w' => e = .returned (.tuple #[.int .u64 0, .int .u64 0, .bool false]) ∧ w = w' := by
  go_enter Tryz.func86, Tryz.ntmps86
  go_wp2
  go_ret3
  exact ⟨rfl, rfl⟩
set_option maxHeartbeats 400000 in
theorem div_yes (hi lo d : Int) (h0 : 0 ≤ hi) (hd : hi < d) (hd' : d < 18446744073709551616) (l0 : 0 ≤ lo) (l1 : lo < 18446744073709551616) (w : World) :
    Calls Tryz.prog 86 #[.int .u64 hi, .int .u64 lo, .int .u64 d] w fun e w' => e = .returned (.tuple #[.int .u64 ((hi * 18446744073709551616 + lo) / d), .int .u64 ((hi * 18446744073709551616 + lo) % d), .bool true]) ∧ Below w.heap.size w w' := by
  obtain ⟨k, hk, hk1, hk2⟩ := logI_low d (by omega)
  have hk63 : k ≤ 63 := by
    apply Nat.le_of_not_lt
    intro h64
    have : (2 : Int) ^ 64 ≤ 2 ^ k := by rw [pow_cast, pow_cast]; exact_mod_cast Nat.pow_le_pow_right (by decide) h64
    simp at this; omega
  obtain ⟨s, hs⟩ : ∃ s : Nat, k = 63 - s ∧ s ≤ 63 := ⟨63 - k, by omega, by omega⟩
  obtain ⟨rfl, hs⟩ := hs
  obtain ⟨w1, w2, w3, S⟩ := shifted hi lo d s h0 hd hd' l0 l1 hs (by rw [hk]; omega)
  have hlg : Hid (logI d = 63 - (s : Int)) := by show logI d = 63 - (s : Int); omega
  have W1 := Lib.hid w1
  have W2 := Lib.hid w2
  have W3 := Lib.hid w3
  clear w1 w2 w3 hk hk1 hk2
  go_enter Tryz.func86, Tryz.ntmps86
  go_wp2_with fail
  refine (log_any d (by omega) hd' _).mono ?_
  rintro e w1 ⟨rfl, rfl⟩
  rw [hlg.out]
  have L0 := S.l0
  have L1 := S.l1
  go_upto_region 5 with fail
  rw [show (63 : Int) - (63 - (s : Int)) = s from by omega, show 63 - (63 - s) = s from by omega, W1.out]
  go_cut [10, 11] (fun a p wx => ∃ b : Nat, a = .int .u64 (hi * 2 ^ s + lo / 2 ^ (64 - s)) ∧ p = .pointer (some ⟨b, 0, none⟩) ∧ wx.cell? ⟨b, 0, none⟩ = some (.int .u64 (IntKind.u64.wrap (lo * 2 ^ s) % 4294967296)) ∧ wx.cell? ⟨b, 1, none⟩ = some (.int .u64 (IntKind.u64.wrap (lo * 2 ^ s) / 4294967296)) ∧ b < wx.heap.size ∧ Below w.heap.size w wx)
  case first =>
    have w2 := W2.out
    have w3 := W3.out
    have w4 : IntKind.i64.wrap (64 - (s : Int)) = 64 - s := IntWalk.i64_in _ (by omega)
    have w5 : (0 : Int) ≤ 64 - (s : Int) := by omega
    have w6 : (64 - (s : Int)).toNat = 64 - s := by omega
    go_region_with ((go_at_call 84; refine (split_exact _ (by assumption) (by assumption) _).mono ?_; rintro e w' ⟨rfl, rfl⟩))
    · go_wp2_with fail
      go_meet
      exact ⟨_, rfl, rfl, by go_simp, by go_simp, by simp, by repeat' (first | (with_reducible exact Below.refl _ _) | (with_reducible assumption) | (with_reducible refine below_drewN ?_ _) | (with_reducible refine Below.drew ?_) | (with_reducible refine Below.setCell ?_ ?_ _) | (with_reducible refine Below.alloc ?_ ?_ _) | (simp; done) | (simp; omega) | omega)⟩
    · go_wp2_with fail
      go_meet
      exact ⟨_, rfl, rfl, by go_simp, by go_simp, by simp; omega, by repeat' (first | (with_reducible exact Below.refl _ _) | (with_reducible assumption) | (with_reducible refine below_drewN ?_ _) | (with_reducible refine Below.drew ?_) | (with_reducible refine Below.setCell ?_ ?_ _) | (with_reducible refine Below.alloc ?_ ?_ _) | (simp; done) | (simp; omega) | omega)⟩
  case rest =>
    obtain ⟨b, rfl, rfl, hc0, hc1, hbs, hB⟩ := hcut
    obtain ⟨a0, a1, a2, a3, a4, a5⟩ := halves S (by omega)
    have A4 := Lib.hid a4
    have A5 := Lib.hid a5
    clear a4 a5 W1 W2 W3 hlg
    have D0 := S.d0
    have D1 := S.d1
    have R0 := S.r0
    have R1 := S.r1
    clear S
    generalize hi * 2 ^ s + lo / 2 ^ (64 - s) = R at *
    generalize IntKind.u64.wrap (lo * 2 ^ s) = L at *
    generalize d * 2 ^ s = D at *
    have e1 := Int.emod_nonneg (R * 4294967296 + L / 4294967296) (show D ≠ 0 by omega)
    have e2 := Int.emod_lt_of_pos (R * 4294967296 + L / 4294967296) (show 0 < D by omega)
    go_wp2_with fail
    refine wp_loop_rounds 3 ?_
    rw [rounds_succ]
    go_wp2_with fail
    refine (half_any R (L / 4294967296) D R0 R1 (by omega) (by omega) D0 D1 _).mono ?_
    rintro e w1 ⟨rfl, hb1⟩
    obtain ⟨c1, f1⟩ := bcell hb1
    have z1 := hb1.size
    simp at z1 c1 f1
    have y1 : wc.heap.size < w1.heap.size := by omega
    have y2 : b < w1.heap.size := by omega
    go_wp2_with fail
    rw [rounds_succ]
    go_wp2_with fail
    refine (half_any _ (L % 4294967296) D e1 e2 (by omega) (by omega) D0 D1 _).mono ?_
    rintro e w2 ⟨rfl, hb2⟩
    obtain ⟨c2, f2⟩ := bcell hb2
    have z2 := hb2.size
    simp at z2 c2 f2
    have x1 : wc.heap.size < w2.heap.size := by omega
    have x2 : b < w2.heap.size := by omega
    go_wp2_with fail
    rw [rounds_succ]
    go_wp2_with fail
    go_quiet ((go_at_call 93; exact quiet_eq (join_lt _ _ (by assumption) (by assumption) (by assumption) (by assumption) _)))
    go_wp2_with fail
    go_ret3
    have hz := hB.size
    exact ⟨ret3 A4.out A5.out rfl, below_drewN (Below.setCell (Below.trans (Below.setCell (Below.trans (Below.alloc hB hz _) (hb1.mono (by simp; omega))) hz _) (hb2.mono (by simp; omega))) hz _) _⟩
end Go.Proofs.YtlidlmgmijndcaaGreat.W
