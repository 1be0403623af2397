/- FloatyRises: of every two floating-point numbers that come to something the greater one comes to no less; what is rounded down is not above, and one unit more not below; what comes to nothing has its error. No condition. -/
import Derived.Test.YtodlmdbgkopdnaaFyF
import Derived.WalkKit
import Derived.WalkSpells
import Derived.WalkLawsBesides
import Derived.Lib.Hide
import Derived.Handy
import Derived.ProofKit
import Derived.OpenShut
import Derived.ShutString
import Derived.ChangeOld
import Derived.Below
namespace Go.Proofs.Ytodlmdbgkopdnaa.FloatyRises
open Go.Proofs.Ytodlmdbgkopdnaa.W
open Go.ChangeShapes Go.WideShapes Go.ChangeAt Go.RowKit
open Go.ChangeMaps (open_string shut_string)
set_option linter.unusedVariables false
theorem own : ownKnob Try.prog.godebug = none := by kernel_rfl
theorem laidOut : laidOutB Try.prog = true := by kernel_rfl
set_option linter.unusedSimpArgs false
theorem ofV_top (a : Nat) (h : isIn a) : ofV a ≤ 9223372036854774784 := by
  obtain ⟨h1, h2⟩ := (isIn_iff a).1 h
  have hU := U_pos
  unfold ofV
  rw [if_pos h]
  refine Int.ediv_le_of_le_mul hU ?_
  by_cases h0 : V a ≤ 0
  · omega
  · have hs : V a = (val (rung a) : Int) := by unfold V at *; split <;> rename_i hn <;> simp only [hn] at h0 <;> simp at h0 ⊢ <;> omega
    have ht := V_top
    have e : Ieee.double.word false 4746794007248502784 = 4746794007248502784 := by rw [word_eq]; rfl
    rw [← e, V_word _ _ (by decide), if_neg (by decide)] at ht
    have hr : rung a < 4746794007248502784 := lt_of_val (by omega)
    have hv : val (rung a) ≤ val 4746794007248502783 := val_le (by omega)
    have hk : val 4746794007248502783 = 9007199254740991 * pw 1052 ∧ pw 1074 = 4194304 * pw 1052 := by
      obtain ⟨k, hk⟩ : ∃ k, 1052 = k := ⟨_, rfl⟩
      rw [show 4746794007248502783 = k * 4503599627370496 + 9007199254740991 by omega, val_at _ _ (.inr (by decide)) (by decide), show 1074 = 22 + k by omega, pw_add, hk]
      exact ⟨rfl, rfl⟩
    have hUe : U = (pw 1074 : Int) := rfl
    omega
theorem rises (a : Nat) (h : isIn a) : -9223372036854775808 ≤ ofV a ∧ ofV a ≤ 9223372036854774784 ∧ V (toB (ofV a)) ≤ V a ∧ V a ≤ V (toB (ofV a + 1)) ∧ isN (toB (ofV a)) ∧ isN (toB (ofV a + 1)) := by
  have ht := ofV_top a h
  have hb := ofV_bounds a
  have hU := U_pos
  obtain ⟨g, hg, fg, vg, _⟩ := mul_c h.isF h
  have hd : V g / U = ofV a := by unfold ofV; rw [if_pos h, vg]
  have hm1 := Int.mul_ediv_self_le (x := V g) (k := U) (by omega)
  have hm2 := Int.lt_mul_ediv_self_add (x := V g) (k := U) hU
  rw [hd] at hm1 hm2
  obtain ⟨_, f1, _, v1⟩ := to_spec (ofV a) (by omega)
  obtain ⟨_, f2, _, v2⟩ := to_spec (ofV a + 1) (by omega)
  obtain ⟨_, _, _, o1, _⟩ := of_int (ofV a) (by omega)
  obtain ⟨_, _, o2, _, _⟩ := of_int (ofV a + 1) (by omega)
  have p1 := o1 g fg.isN (by rw [Int.mul_comm]; exact hm1)
  have p2 := o2 g fg.isN (by rw [Int.add_mul, Int.one_mul, Int.mul_comm]; omega)
  refine ⟨hb.1, ht, by omega, by omega, f1.isN, f2.isN⟩
theorem ofE_ne {a : Nat} (h : ¬ ofE a = 0) : ofV a = 0 ∧ ((ofE a = 30 ∧ ¬ isN a) ∨ ((ofE a = 31 ∨ ofE a = 32) ∧ isN a)) := by
  have hi : ¬ isIn a := fun k => h (ofE_in k)
  refine ⟨by unfold ofV; rw [if_neg hi], ?_⟩
  unfold ofE isN
  split
  · left; exact ⟨rfl, by omega⟩
  · right
    refine ⟨?_, by omega⟩
    split
    · exact .inl rfl
    · first | exact .inr rfl | (rw [if_neg hi]; exact .inr rfl)
set_option maxHeartbeats 1600000 in
theorem walk (a0 a1 : Nat) (w : World) (w0 : (Lit.float .f64 a0).wf = true) (w1 : (Lit.float .f64 a1).wf = true) :
    Calls Try.prog 5 #[.float .f64 a0, .float .f64 a1] w fun e w' => e = .returned (.bool true) ∧ Below w.heap.size w w' := by
  have b0 := f64_bounds w0
  have b1 := f64_bounds w1
  clear w0 w1
  have c1 := of_any a0 b0
  have c2 := of_any a1 b1
  by_cases z1 : ofE a0 = 0
  · obtain ⟨i0, _, n0⟩ := ofE_zero z1
    obtain ⟨q1, q2, r1, r2, n2, n3⟩ := rises a0 i0
    have c3 := to_any (ofV a0) (by omega) (by omega)
    have c4 := to_any (ofV a0 + 1) (by omega) (by omega)
    have o3 : FloatKind.f64.format.order (toB (ofV a0)) a0 = some .lt ∨ FloatKind.f64.format.order (toB (ofV a0)) a0 = some .eq := by
      rcases Int.lt_or_eq_of_le r1 with k | k
      · exact .inl (order_lt n2 n0 k)
      · exact .inr (order_eq n2 n0 k)
    have o4 : FloatKind.f64.format.order a0 (toB (ofV a0 + 1)) = some .lt ∨ FloatKind.f64.format.order a0 (toB (ofV a0 + 1)) = some .eq := by
      rcases Int.lt_or_eq_of_le r2 with k | k
      · exact .inl (order_lt n0 n3 k)
      · exact .inr (order_eq n0 n3 k)
    have o3' : (FloatKind.f64.format.order (toB (ofV a0)) a0 == some .lt || FloatKind.f64.format.order (toB (ofV a0)) a0 == some .eq) = true := by
      rcases o3 with k | k <;> rw [k] <;> rfl
    have o4' : (FloatKind.f64.format.order a0 (toB (ofV a0 + 1)) == some .lt || FloatKind.f64.format.order a0 (toB (ofV a0 + 1)) == some .eq) = true := by
      rcases o4 with k | k <;> rw [k] <;> rfl
    have hw : wrap64 (ofV a0 + 1) = ofV a0 + 1 := by (try simp only [wrap64, IntKind.wrap_u64, IntKind.wrap_i64]) <;> omega
    have key : (¬ ofE a1 = 0) ∨ (ofE a1 = 0 ∧ (FloatKind.f64.format.order a0 a1 = some .gt ∨ ((FloatKind.f64.format.order a0 a1 = some .lt ∨ FloatKind.f64.format.order a0 a1 = some .eq) ∧ ofV a0 ≤ ofV a1))) := by
      by_cases z2 : ofE a1 = 0
      · obtain ⟨i1, _, n1⟩ := ofE_zero z2
        refine .inr ⟨z2, ?_⟩
        have hle : V a0 ≤ V a1 → ofV a0 ≤ ofV a1 := by
          intro k
          unfold ofV
          rw [if_pos i0, if_pos i1]
          exact Int.ediv_le_ediv U_pos (by omega)
        rcases Int.lt_trichotomy (V a0) (V a1) with k | k | k
        · exact .inr ⟨.inl (order_lt n0 n1 k), hle (by omega)⟩
        · exact .inr ⟨.inr (order_eq n0 n1 k), hle (by omega)⟩
        · exact .inl (order_gt n0 n1 k)
      · exact .inl z2
    rw [z1] at c1
    clear z1 i0 n0 r1 r2 n2 n3 o3 o4 b0 b1
    generalize toB (ofV a0 + 1) = y at *
    generalize toB (ofV a0) = x at *
    generalize ofV a0 = n at *
    generalize ofV a1 = m at *
    rcases key with z2 | ⟨z2, o1 | ⟨o1 | o1, hle⟩⟩
    · have z2' : (ofE a1 == 0) = false := by rw [beq_eq_false_iff_ne]; exact z2
      generalize ofE a1 = e1 at *
      go_enter Try.func5, Try.ntmps5
      go_wp2_with fail
      (with_reducible refine (c1 _).mono ?_)
      rintro e w' ⟨rfl, rfl⟩
      go_wp2_with fail
      (with_reducible refine (c2 _).mono ?_)
      rintro e w' ⟨rfl, rfl⟩
      go_wp2_with fail
      (with_reducible refine (c3 _).mono ?_)
      rintro e w' ⟨rfl, rfl⟩
      go_wp2_with fail
      (with_reducible refine (c4 _).mono ?_)
      rintro e w' ⟨rfl, rfl⟩
      go_wp2_with fail
      (with_reducible refine (kshown_any _).mono ?_)
      rintro e w' ⟨rfl, rfl⟩
      go_wp2_with fail
      go_ret
      exact ⟨rfl, Below.refl _ _⟩
    · rw [z2] at c2
      clear z2
      go_enter Try.func5, Try.ntmps5
      go_wp2_with fail
      (with_reducible refine (c1 _).mono ?_)
      rintro e w' ⟨rfl, rfl⟩
      go_wp2_with fail
      (with_reducible refine (c2 _).mono ?_)
      rintro e w' ⟨rfl, rfl⟩
      go_wp2_with fail
      (with_reducible refine (c3 _).mono ?_)
      rintro e w' ⟨rfl, rfl⟩
      go_wp2_with fail
      (with_reducible refine (c4 _).mono ?_)
      rintro e w' ⟨rfl, rfl⟩
      go_wp2_with fail
      (with_reducible refine (kshown_any _).mono ?_)
      rintro e w' ⟨rfl, rfl⟩
      go_wp2_with fail
      go_ret
      exact ⟨rfl, Below.refl _ _⟩
    · rw [z2] at c2
      clear z2
      go_enter Try.func5, Try.ntmps5
      go_wp2_with fail
      (with_reducible refine (c1 _).mono ?_)
      rintro e w' ⟨rfl, rfl⟩
      go_wp2_with fail
      (with_reducible refine (c2 _).mono ?_)
      rintro e w' ⟨rfl, rfl⟩
      go_wp2_with fail
      (with_reducible refine (c3 _).mono ?_)
      rintro e w' ⟨rfl, rfl⟩
      go_wp2_with fail
      (with_reducible refine (c4 _).mono ?_)
      rintro e w' ⟨rfl, rfl⟩
      go_wp2_with fail
      (with_reducible refine (kshown_any _).mono ?_)
      rintro e w' ⟨rfl, rfl⟩
      go_wp2_with fail
      go_ret
      exact ⟨rfl, Below.refl _ _⟩
    · rw [z2] at c2
      clear z2
      go_enter Try.func5, Try.ntmps5
      go_wp2_with fail
      (with_reducible refine (c1 _).mono ?_)
      rintro e w' ⟨rfl, rfl⟩
      go_wp2_with fail
      (with_reducible refine (c2 _).mono ?_)
      rintro e w' ⟨rfl, rfl⟩
      go_wp2_with fail
      (with_reducible refine (c3 _).mono ?_)
      rintro e w' ⟨rfl, rfl⟩
      go_wp2_with fail
      (with_reducible refine (c4 _).mono ?_)
      rintro e w' ⟨rfl, rfl⟩
      go_wp2_with fail
      (with_reducible refine (kshown_any _).mono ?_)
      rintro e w' ⟨rfl, rfl⟩
      go_wp2_with fail
      go_ret
      exact ⟨rfl, Below.refl _ _⟩
  · obtain ⟨e1, hc⟩ := ofE_ne z1
    rw [e1] at c1
    clear e1
    generalize ofV a1 = m at *
    generalize ofE a1 = e1 at *
    rcases hc with ⟨h, hn⟩ | ⟨h | h, hn⟩
    · have o1 := order_none (x := a0) (y := a0) (.inl hn)
      rw [h] at c1
      clear h hn z1 b0 b1
      go_enter Try.func5, Try.ntmps5
      go_wp2_with fail
      (with_reducible refine (c1 _).mono ?_)
      rintro e w' ⟨rfl, rfl⟩
      go_wp2_with fail
      (with_reducible refine (c2 _).mono ?_)
      rintro e w' ⟨rfl, rfl⟩
      go_wp2_with fail
      (with_reducible refine (kshown_any _).mono ?_)
      rintro e w' ⟨rfl, rfl⟩
      go_wp2_with fail
      go_ret
      exact ⟨rfl, Below.refl _ _⟩
    · have o1 := order_eq hn hn rfl
      rw [h] at c1
      clear h hn z1 b0 b1
      go_enter Try.func5, Try.ntmps5
      go_wp2_with fail
      (with_reducible refine (c1 _).mono ?_)
      rintro e w' ⟨rfl, rfl⟩
      go_wp2_with fail
      (with_reducible refine (c2 _).mono ?_)
      rintro e w' ⟨rfl, rfl⟩
      go_wp2_with fail
      (with_reducible refine (kshown_any _).mono ?_)
      rintro e w' ⟨rfl, rfl⟩
      go_wp2_with fail
      go_ret
      exact ⟨rfl, Below.refl _ _⟩
    · have o1 := order_eq hn hn rfl
      rw [h] at c1
      clear h hn z1 b0 b1
      go_enter Try.func5, Try.ntmps5
      go_wp2_with fail
      (with_reducible refine (c1 _).mono ?_)
      rintro e w' ⟨rfl, rfl⟩
      go_wp2_with fail
      (with_reducible refine (c2 _).mono ?_)
      rintro e w' ⟨rfl, rfl⟩
      go_wp2_with fail
      (with_reducible refine (kshown_any _).mono ?_)
      rintro e w' ⟨rfl, rfl⟩
      go_wp2_with fail
      go_ret
      exact ⟨rfl, Below.refl _ _⟩
set_option maxRecDepth 100000 in
theorem lifted (os : Os) (started : os.Started) (H : Type) (enc : TypeId × Value → H) :
    ReturnsInHanded {} Try.checked os 5 .any (Rows.floatyRisesSpec.pre6 enc Try.prog Try.f5 Rows.floatyRisesRow.domain false) (Rows.floatyRisesSpec.post enc Try.prog Try.f5 false true false false) := by
  refine returnsInHanded_of_change (C := Try.checked) own started (by kernel_rfl) Try.func5
    (ChangeSpec.witness6 (enc := enc) (C := Try.checked) false ⟨#[], #[.float .f64 0, .float .f64 0], []⟩ 8 (by kernel_rfl) (by kernel_rfl) (by kernel_rfl) (by kernel_rfl)) ?_
  intro W base args ds gs before hval0 hW hcnd _
  have hval : ∀ (j : Nat) t v, Try.f5.params[j]? = some t → args[j]? = some v → Value.okWide Try.prog W .any base t v := hval0
  have hW' := hW
  obtain ⟨p, q, hA0, hV, rfl, hfz, hnd⟩ := hW
  have hA : DataW.TrodAll enc Try.prog W 0 (fun _ => true) true Try.f5.params.toList args.toList ds p := hA0
  rw [Try.params5] at hA hval
  obtain ⟨v0, vs0, d0, ds0, p0, q0, hargs, rfl, rfl, h0, r0⟩ := trodAll_cons hA
  obtain ⟨v1, vs1, d1, ds1, p1, q1, rfl, rfl, rfl, h1, r1⟩ := trodAll_cons r0
  obtain ⟨rfl, rfl, rfl⟩ := trodAll_nil r1
  obtain rfl : args = #[v0, v1] := by cases args; simp_all
  obtain ⟨rfl, rfl⟩ := trodVars_none hV
  obtain ⟨a0, rfl, rfl, rfl, w0⟩ := open_float Try.underlying22 (hval 0 22 v0 rfl rfl) h0
  obtain ⟨a1, rfl, rfl, rfl, w1⟩ := open_float Try.underlying22 (hval 1 22 v1 rfl rfl) h1
  clear hA0 hval0
  refine (walk a0 a1 W w0 w1).mono fun e W' ⟨he, bel⟩ => ?_
  subst he
  exact ⟨_, rfl, _, _, _, [], _, [], hW', trodAll_mk1 (shut_bool Try.underlying4 _), (trodAll_cons_mk (shut_float Try.underlying22 w0) (trodAll_cons_mk (shut_float Try.underlying22 w1) trodAll_mk0)), rfl, bel.frame _, fun h => by cases h⟩

theorem over : Rows.floatyRisesRow.holds Try.pinned (OpenSpec.ofChange Rows.floatyRisesSpec) :=
  OpenClaim.holds_of_wide 5 Try.f5 rfl rfl rfl rfl rfl rfl rfl ⟨rfl, rfl, rfl, rfl, rfl⟩ rfl rfl rfl rfl rfl (by kernel_rfl) Try.func5 (by kernel_rfl)
    (of_decide_eq_true (by kernel_rfl)) (by unfold Func.isWrapper; first | (rw [if_pos (by decide +kernel)]; kernel_rfl) | (rw [if_neg (by decide +kernel)]; exact ⟨rfl, rfl⟩))
    (fun os started H enc _ => lifted os started H enc)

theorem proved : Rows.FloatyRisesSaid := over
end Go.Proofs.Ytodlmdbgkopdnaa.FloatyRises
