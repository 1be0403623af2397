/- The document's own answers of layer 2, walked: products, quotients, logarithms, roots. -/
import Derived.Test.YtekdablolacgfaaFixC
import Derived.Test.YtekdablolacgfaaWideR
import Derived.Test.YtekdablolacgfaaWideS
import Derived.Test.YtekdablolacgfaaWideT
namespace Go.Proofs.Ytekdablolacgfaa.W
open Go.RowKit
set_option linter.unusedVariables false
set_option linter.unusedSimpArgs false
set_option maxHeartbeats 800000 in
theorem rfmul_any (a b : Int) (ha : -9223372036854775808 ≤ a) (ha' : a ≤ 9223372036854775807) (hb : -9223372036854775808 ≤ b) (hb' : b ≤ 9223372036854775807) (w : World) :
    Calls Try.prog 23 #[.int .i64 a, .int .i64 b] w fun e w' => e = .returned (.int .i64 (mulI a b)) ∧ w = w' := by
  obtain ⟨x, hx⟩ : ∃ x, decide (a < 0) = x := ⟨_, rfl⟩
  obtain ⟨y, hy⟩ : ∃ y, decide (b < 0) = y := ⟨_, rfl⟩
  have hs := mul_share a b
  obtain ⟨s0, s1⟩ := sizeI_range a ha ha'
  obtain ⟨t0, t1⟩ := sizeI_range b hb hb'
  obtain ⟨m0, m1, m2, m3⟩ := mulH_range (sizeI a) (sizeI b) s0 s1 t0 t1
  rw [hx, hy, ← wide_mul] at hs
  have hm := rmul_any (sizeI a) (sizeI b) s0 (by omega) t0 (by omega)
  have ka := rsize_any a ha ha'
  have kb := rsize_any b hb hb'
  generalize sizeI a = sa at *
  generalize sizeI b = sb at *
  generalize mulH sa sb = mh at *
  generalize mulL sa sb = ml at *
  by_cases hl : 2147483648 ≤ mh
  · have hc := fun z => rcut_is z 9223372036854775808 false _ (by decide) (by decide) (share_over z (mh * 18446744073709551616 + ml) 4294967296 (by decide) (by omega))
    rw [← hs]
    clear hs
    cases x <;> cases y
    all_goals
      go_enter Try.func23, Try.ntmps23
      go_wp2_with fail
      (with_reducible refine (ka _).mono ?_)
      rintro e w1 ⟨rfl, rfl⟩
      go_wp2_with fail
      (with_reducible refine (kb _).mono ?_)
      rintro e w1 ⟨rfl, rfl⟩
      go_wp2_with fail
      (with_reducible refine (hm _).mono ?_)
      rintro e w1 ⟨rfl, rfl⟩
      go_wp2_with fail
      (refine (hc _ _).mono ?_)
      rintro e w1 ⟨rfl, rfl⟩
      go_wp2_with fail
      go_ret
      exact ⟨rfl, rfl⟩
  · have eq := or_halves mh (ml / 4294967296) (by omega) (by omega) (by omega) (by omega)
    have hc := fun z => rcut_is z (bits .or .u64 (mh * 4294967296) (ml / 4294967296)) (IntKind.u64.wrap (ml * 4294967296) != 0) _ (by omega) (by omega)
      (share_in z (mh * 18446744073709551616 + ml) 4294967296 _ ((mh * 18446744073709551616 + ml) % 4294967296) _ (by omega) (by decide) (by omega) rfl (by rw [Bool.eq_iff_iff]; simp [IntKind.wrap_u64]; omega))
    rw [← hs]
    clear hs eq
    cases x <;> cases y
    all_goals
      go_enter Try.func23, Try.ntmps23
      go_wp2_with fail
      (with_reducible refine (ka _).mono ?_)
      rintro e w1 ⟨rfl, rfl⟩
      go_wp2_with fail
      (with_reducible refine (kb _).mono ?_)
      rintro e w1 ⟨rfl, rfl⟩
      go_wp2_with fail
      (with_reducible refine (hm _).mono ?_)
      rintro e w1 ⟨rfl, rfl⟩
      go_wp2_with fail
      (refine (hc _ _).mono ?_)
      rintro e w1 ⟨rfl, rfl⟩
      go_wp2_with fail
      go_ret
      exact ⟨rfl, rfl⟩
set_option maxHeartbeats 800000 in
theorem rfdiv_any (a b : Int) (ha : -9223372036854775808 ≤ a) (ha' : a ≤ 9223372036854775807) (hb : -9223372036854775808 ≤ b) (hb' : b ≤ 9223372036854775807) (w : World) :
    Calls Try.prog 25 #[.int .i64 a, .int .i64 b] w fun e w' => e = .returned (.int .i64 (divI a b)) ∧ w = w' := by
  obtain ⟨x, hx⟩ : ∃ x, decide (a < 0) = x := ⟨_, rfl⟩
  by_cases h0 : b = 0
  · by_cases ha0 : a = 0
    · have hv : divI a b = 0 := by subst h0 ha0; rfl
      rw [hv]
      clear hv
      subst h0 ha0
      go_enter Try.func25, Try.ntmps25
      go_wp2_with fail
      go_ret
      exact ⟨rfl, rfl⟩
    · have hc := rcut_is x 9223372036854775808 false (divI a b) (by decide) (by decide) (by
        unfold divI endI; rw [if_pos h0]; subst hx
        by_cases h : a < 0 <;> simp [h, ha0, restI, isB] <;> rfl)
      have hn : (a == 0) = false := by simp [ha0]
      subst h0
      clear ha0
      cases x
      all_goals
        go_enter Try.func25, Try.ntmps25
        go_wp2_with fail
        (with_reducible refine (hc _).mono ?_)
        rintro e w1 ⟨rfl, rfl⟩
        go_wp2_with fail
        go_ret
        exact ⟨rfl, rfl⟩
  · obtain ⟨y, hy⟩ : ∃ y, decide (b < 0) = y := ⟨_, rfl⟩
    have hs := div_share a b h0
    obtain ⟨s0, s1⟩ := sizeI_range a ha ha'
    obtain ⟨t0, t1⟩ := sizeI_range b hb hb'
    have t2 : 0 < sizeI b := by unfold sizeI; omega
    have ka := rsize_any a ha ha'
    have kb := rsize_any b hb hb'
    have hn : (b == 0) = false := by simp [h0]
    rw [hx, hy] at hs
    clear h0
    generalize sizeI a = sa at *
    generalize sizeI b = sb at *
    have e1 : sa / 4294967296 * 18446744073709551616 + IntKind.u64.wrap (sa * 4294967296) = sa * 4294967296 := by rw [IntKind.wrap_u64]; omega
    have l0 : 0 ≤ IntKind.u64.wrap (sa * 4294967296) := by rw [IntKind.wrap_u64]; omega
    have l1 : IntKind.u64.wrap (sa * 4294967296) < 18446744073709551616 := by rw [IntKind.wrap_u64]; omega
    by_cases hl : sb ≤ sa / 4294967296
    · have hd := rdiv_no (sa / 4294967296) (IntKind.u64.wrap (sa * 4294967296)) sb hl
      have hc := fun z => rcut_is z 9223372036854775808 false _ (by decide) (by decide) (share_over z (sa * 4294967296) sb t2 (by omega))
      rw [← hs]
      clear hs e1
      cases x <;> cases y
      all_goals
        go_enter Try.func25, Try.ntmps25
        go_wp2_with fail
        (with_reducible refine (ka _).mono ?_)
        rintro e w1 ⟨rfl, rfl⟩
        go_wp2_with fail
        (with_reducible refine (kb _).mono ?_)
        rintro e w1 ⟨rfl, rfl⟩
        go_wp2_with fail
        (with_reducible refine (hd _).mono ?_)
        rintro e w1 ⟨rfl, rfl⟩
        go_wp2_with fail
        (refine (hc _ _).mono ?_)
        rintro e w1 ⟨rfl, rfl⟩
        go_wp2_with fail
        go_ret
        exact ⟨rfl, rfl⟩
    · have hd := rdiv_yes (sa / 4294967296) (IntKind.u64.wrap (sa * 4294967296)) sb (by omega) (by omega) (by omega) l0 l1
      rw [e1] at hd
      have r0 := Int.emod_nonneg (sa * 4294967296) (show sb ≠ 0 by omega)
      have q0 : 0 ≤ (sa * 4294967296) / sb := Int.ediv_nonneg (by omega) (by omega)
      have q1 : (sa * 4294967296) / sb < 18446744073709551616 := by
        apply Int.ediv_lt_of_lt_mul t2
        omega
      have hc := fun z => rcut_is z ((sa * 4294967296) / sb) (decide (0 < (sa * 4294967296) % sb)) _ q0 q1 (share_in z (sa * 4294967296) sb _ _ _ (by omega) t2 rfl rfl rfl)
      rw [← hs]
      clear hs e1
      generalize sa * 4294967296 / sb = q at *
      generalize sa * 4294967296 % sb = r at *
      cases x <;> cases y
      all_goals
        go_enter Try.func25, Try.ntmps25
        go_wp2_with fail
        (with_reducible refine (ka _).mono ?_)
        rintro e w1 ⟨rfl, rfl⟩
        go_wp2_with fail
        (with_reducible refine (kb _).mono ?_)
        rintro e w1 ⟨rfl, rfl⟩
        go_wp2_with fail
        (with_reducible refine (hd _).mono ?_)
        rintro e w1 ⟨rfl, rfl⟩
        go_wp2_with fail
        (refine (hc _ _).mono ?_)
        rintro e w1 ⟨rfl, rfl⟩
        go_wp2_with fail
        go_ret
        exact ⟨rfl, rfl⟩
set_option maxHeartbeats 800000 in
theorem rfsqrt_any (a : Int) (ha : -9223372036854775808 ≤ a) (ha' : a ≤ 9223372036854775807) (w : World) :
    Calls Try.prog 31 #[.int .i64 a] w fun e w' => e = .returned (.int .i64 (rootI a)) ∧ w = w' := by
  by_cases h : a ≤ 0
  · rw [show rootI a = 0 by unfold rootI; rw [if_pos h]]
    go_enter Try.func31, Try.ntmps31
    go_wp2_with fail
    go_ret
    exact ⟨rfl, rfl⟩
  · have r0 := rootI_nonneg a
    have r1 := rootI_lt a ha'
    have e1 : a / 4294967296 * 18446744073709551616 + IntKind.u64.wrap (a * 4294967296) = max a 0 * 4294967296 := by rw [IntKind.wrap_u64, Int.max_eq_left (by omega)]; omega
    have l0 : 0 ≤ IntKind.u64.wrap (a * 4294967296) := by rw [IntKind.wrap_u64]; omega
    have l1 : IntKind.u64.wrap (a * 4294967296) < 18446744073709551616 := by rw [IntKind.wrap_u64]; omega
    have hs := rsqrt_any (a / 4294967296) (IntKind.u64.wrap (a * 4294967296)) (by omega) (by omega) l0 l1
    rw [root_wide a _ _ e1] at hs
    have hc := rcut_is false (rootI a) false (rootI a) r0 (by omega) (by
      simp only [restI, Bool.false_eq_true, if_false]
      exact cutI_in _ (by omega) (by omega))
    clear e1
    generalize rootI a = r at *
    go_enter Try.func31, Try.ntmps31
    go_wp2_with fail
    (with_reducible refine (hs _).mono ?_)
    rintro e w1 ⟨rfl, rfl⟩
    go_wp2_with fail
    (with_reducible refine (hc _).mono ?_)
    rintro e w1 ⟨rfl, rfl⟩
    go_wp2_with fail
    go_ret
    exact ⟨rfl, rfl⟩
end Go.Proofs.Ytekdablolacgfaa.W
