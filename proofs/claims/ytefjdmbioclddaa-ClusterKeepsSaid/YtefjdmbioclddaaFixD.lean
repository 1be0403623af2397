/- The walks of layer 2: shifts, powers, logarithms, roots. -/
import Derived.Test.YtefjdmbioclddaaFixC
namespace Go.Proofs.Ytefjdmbioclddaa.W
open Go.RowKit
set_option linter.unusedVariables false
set_option linter.unusedSimpArgs false
theorem root_is (a : Int) (ha : -9223372036854775808 ≤ a) (ha' : a ≤ 9223372036854775807) : cutI (restI false (rootI a) 0) = rootI a := by
  have := rootI_nonneg a
  have := rootI_lt a ha'
  simp only [restI, Bool.false_eq_true, if_false]
  exact cutI_in _ (by omega) (by omega)
set_option maxHeartbeats 800000 in
theorem fsqrt_any (a : Int) (ha : -9223372036854775808 ≤ a) (ha' : a ≤ 9223372036854775807) (w : World) :
    Calls Try.prog 44 #[.int .i64 a] w fun e w' => e = .returned (.int .i64 (rootI a)) ∧ Below w.heap.size w w' := by
  have r0 := rootI_nonneg a
  have r1 := rootI_lt a ha'
  have hc := cut_is false (rootI a) 0 (rootI a) r0 (by omega) (by decide) (by decide) (root_is a ha ha')
  rcases Int.lt_trichotomy a 0 with h | h | h
  · have hm := mul_any 0 4294967296 (by decide) (by decide) (by decide) (by decide)
    obtain ⟨m0, m1, m2, m3⟩ := mulH_range 0 4294967296 (by decide) (by decide) (by decide) (by decide)
    have hs := sqrt_any (mulH 0 4294967296) (mulL 0 4294967296) m0 (by omega) m2 m3
    rw [root_wide a _ _ (by rw [wide_mul, Int.max_eq_right (by omega)])] at hs
    generalize mulH 0 4294967296 = mh at *
    generalize mulL 0 4294967296 = ml at *
    generalize rootI a = r at *
    go_enter Try.func44, Try.ntmps44
    go_wp2_with fail
    (with_reducible refine (hm _).mono ?_)
    rintro e w1 ⟨rfl, hb1⟩
    go_wp2_with fail
    (with_reducible refine (hs _).mono ?_)
    rintro e w2 ⟨rfl, hb2⟩
    go_wp2_with fail
    (with_reducible refine (hc _).mono ?_)
    rintro e w3 ⟨rfl, rfl⟩
    go_wp2_with fail
    go_ret
    exact ⟨rfl, hb1.trans (hb2.mono hb1.size)⟩
  · subst h
    have hm := mul_any 0 4294967296 (by decide) (by decide) (by decide) (by decide)
    obtain ⟨m0, m1, m2, m3⟩ := mulH_range 0 4294967296 (by decide) (by decide) (by decide) (by decide)
    have hs := sqrt_any (mulH 0 4294967296) (mulL 0 4294967296) m0 (by omega) m2 m3
    rw [root_wide 0 _ _ (by rw [wide_mul, Int.max_eq_right (by omega)])] at hs
    generalize mulH 0 4294967296 = mh at *
    generalize mulL 0 4294967296 = ml at *
    generalize rootI 0 = r at *
    go_enter Try.func44, Try.ntmps44
    go_wp2_with fail
    (with_reducible refine (hm _).mono ?_)
    rintro e w1 ⟨rfl, hb1⟩
    go_wp2_with fail
    (with_reducible refine (hs _).mono ?_)
    rintro e w2 ⟨rfl, hb2⟩
    go_wp2_with fail
    (with_reducible refine (hc _).mono ?_)
    rintro e w3 ⟨rfl, rfl⟩
    go_wp2_with fail
    go_ret
    exact ⟨rfl, hb1.trans (hb2.mono hb1.size)⟩
  · have hm := mul_any a 4294967296 (by omega) (by omega) (by decide) (by decide)
    obtain ⟨m0, m1, m2, m3⟩ := mulH_range a 4294967296 (by omega) (by omega) (by decide) (by decide)
    have hs := sqrt_any (mulH a 4294967296) (mulL a 4294967296) m0 (by omega) m2 m3
    rw [root_wide a _ _ (by rw [wide_mul, Int.max_eq_left (by omega)])] at hs
    generalize mulH a 4294967296 = mh at *
    generalize mulL a 4294967296 = ml at *
    generalize rootI a = r at *
    go_enter Try.func44, Try.ntmps44
    go_wp2_with fail
    (with_reducible refine (hm _).mono ?_)
    rintro e w1 ⟨rfl, hb1⟩
    go_wp2_with fail
    (with_reducible refine (hs _).mono ?_)
    rintro e w2 ⟨rfl, hb2⟩
    go_wp2_with fail
    (with_reducible refine (hc _).mono ?_)
    rintro e w3 ⟨rfl, rfl⟩
    go_wp2_with fail
    go_ret
    exact ⟨rfl, hb1.trans (hb2.mono hb1.size)⟩
end Go.Proofs.Ytefjdmbioclddaa.W
