/- The walks of layer 2: shares, products, quotients, logarithms, roots. -/
import Derived.Test.YtlidlmgmijndcaaGreatFixB
import Derived.Test.YtlidlmgmijndcaaGreatWideB
import Derived.Test.YtlidlmgmijndcaaGreatWideD
import Derived.Test.YtlidlmgmijndcaaGreatWideE
import Derived.Test.YtlidlmgmijndcaaGreatWideG
import Derived.Test.YtlidlmgmijndcaaGreatRows
import Derived.Test.YtlidlmgmijndcaaGreatFdefs
import Derived.Test.YtlidlmgmijndcaaGreatWideC
import Derived.WalkSpells
import Derived.WalkLawsBesides
import Derived.Lib.Hide
import Derived.Handy
namespace Go.Proofs.YtlidlmgmijndcaaGreat.W
open Go.RowKit
set_option linter.unusedVariables false
set_option linter.unusedSimpArgs false
set_option maxHeartbeats 800000 in
theorem share_is (below : Bool) (hi lo d v : Int) (h0 : 0 ≤ hi) (h1 : hi < 18446744073709551616) (h2 : 0 ≤ lo) (h3 : lo < 18446744073709551616) (h4 : 0 < d) (h5 : d < 18446744073709551616) (hv : shareI below (hi * 18446744073709551616 + lo) d = v) (w : World) :
    Calls Tryz.prog 42 #[.bool below, .int .u64 hi, .int .u64 lo, .int .u64 d] w fun e w' => e = .returned (.int .i64 v) ∧ Below w.heap.size w w' := by
  by_cases h : d ≤ hi
  · have hm := most_is below v (by rw [← hv, share_large below hi lo d h2 h4 h])
    clear hv
    go_enter Tryz.func42, Tryz.ntmps42
    go_wp2_with fail
    (with_reducible refine (div_no hi lo d h _).mono ?_)
    rintro e w1 ⟨rfl, rfl⟩
    go_wp2_with fail
    (with_reducible refine (hm _).mono ?_)
    rintro e w1 ⟨rfl, rfl⟩
    go_wp2_with fail
    go_ret
    exact ⟨rfl, Below.refl _ _⟩
  · have h' : hi < d := by omega
    have r0 := Int.emod_nonneg (hi * 18446744073709551616 + lo) (show d ≠ 0 by omega)
    have r1 := Int.emod_lt_of_pos (hi * 18446744073709551616 + lo) h4
    have q0 : 0 ≤ (hi * 18446744073709551616 + lo) / d := Int.ediv_nonneg (by omega) (by omega)
    have q1 : (hi * 18446744073709551616 + lo) / d < 18446744073709551616 := by
      apply Int.ediv_lt_of_lt_mul h4
      omega
    have hc := cut_is below ((hi * 18446744073709551616 + lo) / d) ((hi * 18446744073709551616 + lo) % d) v q0 q1 r0 (by omega) (by rw [rest_div _ _ _ (by omega) h4]; exact hv)
    have hd := div_yes hi lo d h0 h' h5 h2 h3
    clear hv h
    generalize (hi * 18446744073709551616 + lo) / d = q at *
    generalize (hi * 18446744073709551616 + lo) % d = r at *
    go_enter Tryz.func42, Tryz.ntmps42
    go_wp2_with fail
    (with_reducible refine (hd _).mono ?_)
    rintro e w1 ⟨rfl, hb1⟩
    go_wp2_with fail
    (with_reducible refine (hc _).mono ?_)
    rintro e w2 ⟨rfl, rfl⟩
    go_wp2_with fail
    go_ret
    exact ⟨rfl, hb1⟩
set_option maxHeartbeats 800000 in
theorem fmul_any (a b : Int) (ha : -9223372036854775808 ≤ a) (ha' : a ≤ 9223372036854775807) (hb : -9223372036854775808 ≤ b) (hb' : b ≤ 9223372036854775807) (w : World) :
    Calls Tryz.prog 25 #[.int .i64 a, .int .i64 b] w fun e w' => e = .returned (.int .i64 (mulI a b)) ∧ Below w.heap.size w w' := by
  obtain ⟨x, hx⟩ : ∃ x, decide (a < 0) = x := ⟨_, rfl⟩
  obtain ⟨y, hy⟩ : ∃ y, decide (b < 0) = y := ⟨_, rfl⟩
  have hs := mul_share a b
  obtain ⟨s0, s1⟩ := sizeI_range a ha ha'
  obtain ⟨t0, t1⟩ := sizeI_range b hb hb'
  obtain ⟨m0, m1, m2, m3⟩ := mulH_range (sizeI a) (sizeI b) s0 s1 t0 t1
  rw [hx, hy, ← wide_mul] at hs
  have hv := share_is _ _ _ _ _ m0 (by omega) m2 m3 (by decide) (by decide) hs
  have hm := mul_any (sizeI a) (sizeI b) s0 (by omega) t0 (by omega)
  have ka := size_any a ha ha'
  have kb := size_any b hb hb'
  clear hs
  generalize sizeI a = sa at *
  generalize sizeI b = sb at *
  generalize mulH sa sb = mh at *
  generalize mulL sa sb = ml at *
  cases x <;> cases y
  all_goals
    go_enter Tryz.func25, Tryz.ntmps25
    go_wp2_with fail
    (with_reducible refine (ka _).mono ?_)
    rintro e w1 ⟨rfl, rfl⟩
    go_wp2_with fail
    (with_reducible refine (kb _).mono ?_)
    rintro e w1 ⟨rfl, rfl⟩
    go_wp2_with fail
    (with_reducible refine (hm _).mono ?_)
    rintro e w1 ⟨rfl, hb1⟩
    go_wp2_with fail
    (refine (hv _).mono ?_)
    rintro e w2 ⟨rfl, hb2⟩
    go_wp2_with fail
    go_ret
    exact ⟨rfl, hb1.trans (hb2.mono hb1.size)⟩
set_option maxHeartbeats 400000 in
theorem end_any (a : Int) (ha : -9223372036854775808 ≤ a) (ha' : a ≤ 9223372036854775807) (w : World) :
    Calls Tryz.prog 44 #[.int .i64 a] w fun e w' => e = .returned (.int .i64 (endI a)) ∧ w = w' := by
  by_cases h0 : a = 0
  · subst h0
    go_enter Tryz.func44, Tryz.ntmps44
    go_wp2_with fail
    go_ret
    exact ⟨rfl, rfl⟩
  · obtain ⟨x, hx⟩ : ∃ x, decide (a < 0) = x := ⟨_, rfl⟩
    have hm := most_is x (endI a) (by subst hx; unfold endI; by_cases h : a < 0 <;> simp [h, h0, signI] <;> rfl)
    have hn : (a == 0) = false := by simp [h0]
    clear h0
    cases x
    all_goals
      go_enter Tryz.func44, Tryz.ntmps44
      go_wp2_with fail
      (with_reducible refine (hm _).mono ?_)
      rintro e w1 ⟨rfl, rfl⟩
      go_wp2_with fail
      go_ret
      exact ⟨rfl, rfl⟩
set_option maxHeartbeats 800000 in
theorem fdiv_any (a b : Int) (ha : -9223372036854775808 ≤ a) (ha' : a ≤ 9223372036854775807) (hb : -9223372036854775808 ≤ b) (hb' : b ≤ 9223372036854775807) (w : World) :
    Calls Tryz.prog 29 #[.int .i64 a, .int .i64 b] w fun e w' => e = .returned (.int .i64 (divI a b)) ∧ Below w.heap.size w w' := by
  by_cases h0 : b = 0
  · have he := end_any a ha ha'
    rw [show endI a = divI a b by unfold divI; rw [if_pos h0]] at he
    subst h0
    go_enter Tryz.func29, Tryz.ntmps29
    go_wp2_with fail
    (with_reducible refine (he _).mono ?_)
    rintro e w1 ⟨rfl, rfl⟩
    go_wp2_with fail
    go_ret
    exact ⟨rfl, Below.refl _ _⟩
  · obtain ⟨x, hx⟩ : ∃ x, decide (a < 0) = x := ⟨_, rfl⟩
    obtain ⟨y, hy⟩ : ∃ y, decide (b < 0) = y := ⟨_, rfl⟩
    have hs := div_share a b h0
    obtain ⟨s0, s1⟩ := sizeI_range a ha ha'
    obtain ⟨t0, t1⟩ := sizeI_range b hb hb'
    have t2 : 0 < sizeI b := by unfold sizeI; omega
    obtain ⟨m0, m1, m2, m3⟩ := mulH_range (sizeI a) 4294967296 s0 s1 (by decide) (by decide)
    rw [hx, hy, ← wide_mul] at hs
    have hv := share_is _ _ _ _ _ m0 (by omega) m2 m3 t2 (by omega) hs
    have hm := mul_any (sizeI a) 4294967296 s0 (by omega) (by decide) (by decide)
    have ka := size_any a ha ha'
    have kb := size_any b hb hb'
    have hn : (b == 0) = false := by simp [h0]
    clear hs h0
    generalize sizeI a = sa at *
    generalize sizeI b = sb at *
    generalize mulH sa 4294967296 = mh at *
    generalize mulL sa 4294967296 = ml at *
    cases x <;> cases y
    all_goals
      go_enter Tryz.func29, Tryz.ntmps29
      go_wp2_with fail
      (with_reducible refine (ka _).mono ?_)
      rintro e w1 ⟨rfl, rfl⟩
      go_wp2_with fail
      (with_reducible refine (hm _).mono ?_)
      rintro e w1 ⟨rfl, hb1⟩
      go_wp2_with fail
      (with_reducible refine (kb _).mono ?_)
      rintro e w2 ⟨rfl, rfl⟩
      go_wp2_with fail
      (refine (hv _).mono ?_)
      rintro e w2 ⟨rfl, hb2⟩
      go_wp2_with fail
      go_ret
      exact ⟨rfl, hb1.trans (hb2.mono hb1.size)⟩
end Go.Proofs.YtlidlmgmijndcaaGreat.W
