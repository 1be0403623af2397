/- The document's own answers of layer 2, walked: products, quotients, logarithms, roots. -/
import Derived.Test.YtkjecjehphgpjaaGreatFixC
import Derived.Test.YtkjecjehphgpjaaGreatWideR
import Derived.Test.YtkjecjehphgpjaaGreatWideS
import Derived.Test.YtkjecjehphgpjaaGreatRows
import Derived.Test.YtkjecjehphgpjaaGreatFdefs
import Derived.Test.YtkjecjehphgpjaaGreatWideC
import Derived.WalkSpells
import Derived.WalkLawsBesides
import Derived.Lib.Hide
import Derived.Handy
namespace Go.Proofs.YtkjecjehphgpjaaGreat.W
open Go.RowKit
set_option linter.unusedVariables false
set_option linter.unusedSimpArgs false
set_option maxHeartbeats 800000 in
theorem rfmul_any (a b : Int) (ha : -9223372036854775808 ≤ a) (ha' : a ≤ 9223372036854775807) (hb : -9223372036854775808 ≤ b) (hb' : b ≤ 9223372036854775807) (w : World) :
    Calls Tryz.prog 24 #[.int .i64 a, .int .i64 b] w fun e w' => e = .returned (.int .i64 (mulI a b)) ∧ w = w' := by
  obtain ⟨x, hx⟩ : ∃ x, decide (a < 0) = x := ⟨_, rfl⟩
  obtain ⟨y, hy⟩ : ∃ y, decide (b < 0) = y := ⟨_, rfl⟩
  have hs := mul_share a b
  obtain ⟨s0, s1⟩ := sizeI_range a ha ha'
  obtain ⟨t0, t1⟩ := sizeI_range b hb hb'
  obtain ⟨m0, m1, m2, m3⟩ := mulH_range (sizeI a) (sizeI b) s0 s1 t0 t1
  rw [hx, hy, ← wide_mul] at hs
  have hm := rmul_any (sizeI a) (sizeI b) s0 (by omega) t0 (by omega)
  have ka := rsize_any a ha ha'
  have kb := rsize_any b hb hb'
  generalize sizeI a = sa at *
  generalize sizeI b = sb at *
  generalize mulH sa sb = mh at *
  generalize mulL sa sb = ml at *
  by_cases hl : 2147483648 ≤ mh
  · have hc := fun z => rcut_is z 9223372036854775808 false _ (by decide) (by decide) (share_over z (mh * 18446744073709551616 + ml) 4294967296 (by decide) (by omega))
    rw [← hs]
    clear hs
    cases x <;> cases y
    all_goals
      go_enter Tryz.func24, Tryz.ntmps24
      go_wp2_with fail
      (with_reducible refine (ka _).mono ?_)
      rintro e w1 ⟨rfl, rfl⟩
      go_wp2_with fail
      (with_reducible refine (kb _).mono ?_)
      rintro e w1 ⟨rfl, rfl⟩
      go_wp2_with fail
      (with_reducible refine (hm _).mono ?_)
      rintro e w1 ⟨rfl, rfl⟩
      go_wp2_with fail
      (refine (hc _ _).mono ?_)
      rintro e w1 ⟨rfl, rfl⟩
      go_wp2_with fail
      go_ret
      exact ⟨rfl, rfl⟩
  · have eq := or_halves mh (ml / 4294967296) (by omega) (by omega) (by omega) (by omega)
    have hc := fun z => rcut_is z (bits .or .u64 (mh * 4294967296) (ml / 4294967296)) (IntKind.u64.wrap (ml * 4294967296) != 0) _ (by omega) (by omega)
      (share_in z (mh * 18446744073709551616 + ml) 4294967296 _ ((mh * 18446744073709551616 + ml) % 4294967296) _ (by omega) (by decide) (by omega) rfl (by rw [Bool.eq_iff_iff]; simp [IntKind.wrap_u64]; omega))
    rw [← hs]
    clear hs eq
    cases x <;> cases y
    all_goals
      go_enter Tryz.func24, Tryz.ntmps24
      go_wp2_with fail
      (with_reducible refine (ka _).mono ?_)
      rintro e w1 ⟨rfl, rfl⟩
      go_wp2_with fail
      (with_reducible refine (kb _).mono ?_)
      rintro e w1 ⟨rfl, rfl⟩
      go_wp2_with fail
      (with_reducible refine (hm _).mono ?_)
      rintro e w1 ⟨rfl, rfl⟩
      go_wp2_with fail
      (refine (hc _ _).mono ?_)
      rintro e w1 ⟨rfl, rfl⟩
      go_wp2_with fail
      go_ret
      exact ⟨rfl, rfl⟩
end Go.Proofs.YtkjecjehphgpjaaGreat.W
