/- FloatyWithin: for every floating-point number and every three uint16s, what is within the bounds that they make is what comes of it; a narrower range takes no more. No condition. -/
import Derived.Test.YtodlmdbgkopdnaaFyD
import Derived.Test.YtodlmdbgkopdnaaFyF
import Derived.WalkKit
import Derived.WalkSpells
import Derived.WalkLawsBesides
import Derived.Lib.Hide
import Derived.Handy
import Derived.ProofKit
import Derived.OpenShut
import Derived.ShutString
import Derived.ChangeOld
import Derived.Below
namespace Go.Proofs.Ytodlmdbgkopdnaa.FloatyWithin
open Go.Proofs.Ytodlmdbgkopdnaa.W
open Go.ChangeShapes Go.WideShapes Go.ChangeAt Go.RowKit
open Go.ChangeMaps (open_string shut_string)
set_option linter.unusedVariables false
theorem own : ownKnob Try.prog.godebug = none := by kernel_rfl
theorem laidOut : laidOutB Try.prog = true := by kernel_rfl
set_option linter.unusedSimpArgs false
/-- A small whole number, as a floating-point number. -/
theorem small (p : Int) (h0 : 0 ≤ p) (h1 : p ≤ 65535) : floatOfInt .f64 p < 18446744073709551616 ∧ isF (floatOfInt .f64 p) ∧ V (floatOfInt .f64 p) = p * U ∧ ofE (floatOfInt .f64 p) = 0 := by
  obtain ⟨f, l, _⟩ := of_int p (by omega)
  have hx := of_int_exact p 0 (by omega) (by simp; omega)
  rw [show p * 2 ^ 0 = p by simp] at hx
  have hU := U_pos
  have m1 : 0 ≤ p * U := Int.mul_nonneg h0 (by omega)
  have m2 : p * U ≤ 65535 * U := Int.mul_le_mul_of_nonneg_right h1 (by omega)
  exact ⟨l, f, hx, ofE_in (by rw [isIn_iff]; omega)⟩
/-- The lesser one of a bound and a sum. -/
theorem least (hi r : Nat) (nh : isN hi) (nr : isN r) (lh : hi < 18446744073709551616) (lr : r < 18446744073709551616) :
    ∃ k, (∀ ts t (w : World), (Builtin.min_ ts t #[.float .f64 hi, .float .f64 r]).run Try.prog w = .ok (.float .f64 k) w) ∧ V k ≤ V hi ∧ k < 18446744073709551616 := by
  rcases Int.lt_trichotomy (V hi) (V r) with h | h | h
  · have o := order_lt nh nr h
    exact ⟨hi, fun ts t w => by simp [Builtin.min_, Builtin.min2, o], by omega, lh⟩
  · have o := order_eq nh nr h
    by_cases hn : (FloatKind.f64.decode hi).neg = true
    · exact ⟨hi, fun ts t w => by simp [Builtin.min_, Builtin.min2, o, hn], by omega, lh⟩
    · exact ⟨r, fun ts t w => by simp [Builtin.min_, Builtin.min2, o, hn], by omega, lr⟩
  · have o := order_gt nh nr h
    exact ⟨r, fun ts t w => by simp [Builtin.min_, Builtin.min2, o], by omega, lr⟩
theorem run_plus (a b g : Nat) (h : floatBits .add .f64 a b = some g) (t : TypeId) (w : World) : (binOp .add t (.float .f64 a) (.float .f64 b)).run Try.prog w = .ok (.float .f64 g) w := run_float_arith w .add t .f64 a _ g h
set_option maxHeartbeats 1600000 in
theorem walk (a0 : Nat) (a1 a2 a3 : Int) (w : World) (w0 : (Lit.float .f64 a0).wf = true) (w1 : (Lit.int .u16 a1).wf = true) (w2 : (Lit.int .u16 a2).wf = true) (w3 : (Lit.int .u16 a3).wf = true) :
    Calls Try.prog 8 #[.float .f64 a0, .int .u16 a1, .int .u16 a2, .int .u16 a3] w fun e w' => e = .returned (.bool true) ∧ Below w.heap.size w w' := by
  have b0 := f64_bounds w0
  have b1 : 0 ≤ a1 ∧ a1 ≤ 65535 := by simp [Lit.wf, IntKind.min, IntKind.max, IntKind.bits, IntKind.signed] at w1; omega
  have b2 : 0 ≤ a2 ∧ a2 ≤ 65535 := by simp [Lit.wf, IntKind.min, IntKind.max, IntKind.bits, IntKind.signed] at w2; omega
  have b3 : 0 ≤ a3 ∧ a3 ≤ 65535 := by simp [Lit.wf, IntKind.min, IntKind.max, IntKind.bits, IntKind.signed] at w3; omega
  clear w0 w1 w2 w3
  have key : ∀ p q : Int, (∀ ts t (w : World), (Builtin.min_ ts t #[.int .u16 a1, .int .u16 a2]).run Try.prog w = .ok (.int .u16 p) w) → (∀ ts t (w : World), (Builtin.max_ ts t #[.int .u16 a1, .int .u16 a2]).run Try.prog w = .ok (.int .u16 q) w) → 0 ≤ p → p ≤ 65535 → 0 ≤ q → q ≤ 65535 →
      Calls Try.prog 8 #[.float .f64 a0, .int .u16 a1, .int .u16 a2, .int .u16 a3] w fun e w' => e = .returned (.bool true) ∧ Below w.heap.size w w' := by
    intro p q hmin hmax p0 p1 q0 q1
    clear b1 b2
    obtain ⟨ll, fl, vl, el⟩ := small p p0 p1
    obtain ⟨lh, fh, vh, eh⟩ := small q q0 q1
    obtain ⟨lc, fc, _, _⟩ := small a3 b3.1 b3.2
    obtain ⟨r, hr, nr, lr⟩ := add_fin fl fc
    have ha := run_plus _ _ _ hr
    obtain ⟨h, hm, vk, lk⟩ := least _ r fh.isN nr lh lr
    clear hr nr lr lc fc b3
    obtain ⟨lo, hlo⟩ : ∃ lo, floatOfInt .f64 p = lo := ⟨_, rfl⟩
    obtain ⟨hi, hhi⟩ : ∃ hi, floatOfInt .f64 q = hi := ⟨_, rfl⟩
    rw [hlo] at ll fl el ha
    rw [hhi] at lh fh eh vk hm
    clear vl vh
    have c1 := within_any a0 lo hi b0 ll lh
    have c2 := of_any a0 b0
    have c3 := within_any a0 lo h b0 ll lk
    clear b0 ll lh lk p0 p1 q0 q1
    by_cases z : ofE a0 = 0
    · have hz := ofE_zero z
      have n0 := hz.2.2
      by_cases k1 : V a0 < V lo
      · have e1 : wiE a0 lo hi = 32 := by unfold wiE; rw [if_neg (by omega), if_neg (by omega), if_neg (by omega), if_pos (.inl k1)]
        have e2 : wiV a0 lo hi = 0 := by unfold wiV; rw [e1, if_neg (by decide)]
        have e3 : ¬ wiE a0 lo h = 0 := by
          unfold wiE
          rw [if_neg (by omega), if_neg (by omega)]
          split
          · assumption
          · rw [if_pos (.inl k1)]; decide
        have e3' : (wiE a0 lo h == 0) = false := by rw [beq_eq_false_iff_ne]; exact e3
        have o1 := order_lt n0 fl.isN k1
        rw [e1, e2] at c1
        rw [z] at c2
        clear e1 e2 z hz n0 k1 fl fh el eh vk
        generalize wiE a0 lo h = x at *
        generalize wiV a0 lo h = y at *
        go_enter Try.func8, Try.ntmps8
        go_wp2_with fail
        (with_reducible refine (c1 _).mono ?_)
        rintro e w' ⟨rfl, rfl⟩
        go_wp2_with fail
        (with_reducible refine (c2 _).mono ?_)
        rintro e w' ⟨rfl, rfl⟩
        go_wp2_with fail
        (with_reducible refine (c3 _).mono ?_)
        rintro e w' ⟨rfl, rfl⟩
        go_wp2_with fail
        (with_reducible refine (kshown_any _).mono ?_)
        rintro e w' ⟨rfl, rfl⟩
        go_wp2_with fail
        go_ret
        exact ⟨rfl, Below.refl _ _⟩
      · have o1 : (FloatKind.f64.format.order a0 lo == some .lt) = false ∧ (FloatKind.f64.format.order a0 lo == some .gt || FloatKind.f64.format.order a0 lo == some .eq) = true := by
          rcases Int.lt_trichotomy (V a0) (V lo) with k | k | k
          · exact absurd k k1
          · rw [order_eq n0 fl.isN k]; exact ⟨rfl, rfl⟩
          · rw [order_gt n0 fl.isN k]; exact ⟨rfl, rfl⟩
        obtain ⟨o1, o1'⟩ := o1
        by_cases k2 : V hi < V a0
        · have e1 : wiE a0 lo hi = 32 := by unfold wiE; rw [if_neg (by omega), if_neg (by omega), if_neg (by omega), if_pos (.inr k2)]
          have e2 : wiV a0 lo hi = 0 := by unfold wiV; rw [e1, if_neg (by decide)]
          have e3 : ¬ wiE a0 lo h = 0 := by
            unfold wiE
            rw [if_neg (by omega), if_neg (by omega)]
            split
            · assumption
            · rw [if_pos (.inr (by omega))]; decide
          have e3' : (wiE a0 lo h == 0) = false := by rw [beq_eq_false_iff_ne]; exact e3
          have o2 := order_gt n0 fh.isN k2
          rw [e1, e2] at c1
          rw [z] at c2
          clear e1 e2 z hz n0 k1 k2 fl fh el eh vk
          generalize wiE a0 lo h = x at *
          generalize wiV a0 lo h = y at *
          go_enter Try.func8, Try.ntmps8
          go_wp2_with fail
          (with_reducible refine (c1 _).mono ?_)
          rintro e w' ⟨rfl, rfl⟩
          go_wp2_with fail
          (with_reducible refine (c2 _).mono ?_)
          rintro e w' ⟨rfl, rfl⟩
          go_wp2_with fail
          (with_reducible refine (c3 _).mono ?_)
          rintro e w' ⟨rfl, rfl⟩
          go_wp2_with fail
          (with_reducible refine (kshown_any _).mono ?_)
          rintro e w' ⟨rfl, rfl⟩
          go_wp2_with fail
          go_ret
          exact ⟨rfl, Below.refl _ _⟩
        · have e1 : wiE a0 lo hi = 0 := by unfold wiE; rw [if_neg (by omega), if_neg (by omega), if_neg (by omega), if_neg (by omega)]
          have e2 : wiV a0 lo hi = ofV a0 := by unfold wiV; rw [e1, if_pos rfl]
          have o2 : (FloatKind.f64.format.order a0 hi == some .gt) = false := by
            rcases Int.lt_trichotomy (V a0) (V hi) with k | k | k
            · rw [order_lt n0 fh.isN k]; rfl
            · rw [order_eq n0 fh.isN k]; rfl
            · exact absurd k k2
          rw [e1, e2] at c1
          rw [z] at c2
          clear e1 e2 z hz n0 k1 k2 fl fh el eh vk
          generalize wiE a0 lo h = x at *
          generalize wiV a0 lo h = y at *
          generalize ofV a0 = n at *
          go_enter Try.func8, Try.ntmps8
          go_wp2_with fail
          (with_reducible refine (c1 _).mono ?_)
          rintro e w' ⟨rfl, rfl⟩
          go_wp2_with fail
          (with_reducible refine (c2 _).mono ?_)
          rintro e w' ⟨rfl, rfl⟩
          go_wp2_with fail
          (with_reducible refine (c3 _).mono ?_)
          rintro e w' ⟨rfl, rfl⟩
          go_wp2_with fail
          all_goals
            (with_reducible refine (kshown_any _).mono ?_)
            rintro e w' ⟨rfl, rfl⟩
            go_wp2_with fail
            go_ret
            exact ⟨rfl, Below.refl _ _⟩
    · have e1 : wiE a0 lo hi = ofE a0 := by unfold wiE; rw [if_pos z]
      have e2 : wiV a0 lo hi = 0 := by unfold wiV; rw [e1, if_neg z]
      have e3 : wiE a0 lo h = ofE a0 := by unfold wiE; rw [if_pos z]
      have z' : (ofE a0 == 0) = false := by rw [beq_eq_false_iff_ne]; exact z
      rw [e1, e2] at c1
      rw [e3] at c3
      clear e1 e2 e3 fl fh el eh vk
      generalize ofE a0 = x at *
      generalize wiV a0 lo h = y at *
      generalize ofV a0 = n at *
      go_enter Try.func8, Try.ntmps8
      go_wp2_with fail
      (with_reducible refine (c1 _).mono ?_)
      rintro e w' ⟨rfl, rfl⟩
      go_wp2_with fail
      (with_reducible refine (c2 _).mono ?_)
      rintro e w' ⟨rfl, rfl⟩
      go_wp2_with fail
      (with_reducible refine (c3 _).mono ?_)
      rintro e w' ⟨rfl, rfl⟩
      go_wp2_with fail
      (with_reducible refine (kshown_any _).mono ?_)
      rintro e w' ⟨rfl, rfl⟩
      go_wp2_with fail
      go_ret
      exact ⟨rfl, Below.refl _ _⟩
  rcases Int.lt_trichotomy a1 a2 with k | k | k
  · exact key a1 a2 (fun ts t w => by rw [run_min_int2, if_neg (by omega)]) (fun ts t w => by rw [run_max_int2]; simp; omega) b1.1 b1.2 b2.1 b2.2
  · exact key a1 a2 (fun ts t w => by rw [run_min_int2, if_neg (by omega)]) (fun ts t w => by rw [run_max_int2]; simp; omega) b1.1 b1.2 b2.1 b2.2
  · exact key a2 a1 (fun ts t w => by rw [run_min_int2, if_pos (by omega)]) (fun ts t w => by rw [run_max_int2]; simp; omega) b2.1 b2.2 b1.1 b1.2
set_option maxRecDepth 100000 in
theorem lifted (os : Os) (started : os.Started) (H : Type) (enc : TypeId × Value → H) :
    ReturnsInHanded {} Try.checked os 8 .any (Rows.floatyWithinSpec.pre6 enc Try.prog Try.f8 Rows.floatyWithinRow.domain false) (Rows.floatyWithinSpec.post enc Try.prog Try.f8 false true false false) := by
  refine returnsInHanded_of_change (C := Try.checked) own started (by kernel_rfl) Try.func8
    (ChangeSpec.witness6 (enc := enc) (C := Try.checked) false ⟨#[], #[.float .f64 0, .int .u16 0, .int .u16 0, .int .u16 0], []⟩ 8 (by kernel_rfl) (by kernel_rfl) (by kernel_rfl) (by kernel_rfl)) ?_
  intro W base args ds gs before hval0 hW hcnd _
  have hval : ∀ (j : Nat) t v, Try.f8.params[j]? = some t → args[j]? = some v → Value.okWide Try.prog W .any base t v := hval0
  have hW' := hW
  obtain ⟨p, q, hA0, hV, rfl, hfz, hnd⟩ := hW
  have hA : DataW.TrodAll enc Try.prog W 0 (fun _ => true) true Try.f8.params.toList args.toList ds p := hA0
  rw [Try.params8] at hA hval
  obtain ⟨v0, vs0, d0, ds0, p0, q0, hargs, rfl, rfl, h0, r0⟩ := trodAll_cons hA
  obtain ⟨v1, vs1, d1, ds1, p1, q1, rfl, rfl, rfl, h1, r1⟩ := trodAll_cons r0
  obtain ⟨v2, vs2, d2, ds2, p2, q2, rfl, rfl, rfl, h2, r2⟩ := trodAll_cons r1
  obtain ⟨v3, vs3, d3, ds3, p3, q3, rfl, rfl, rfl, h3, r3⟩ := trodAll_cons r2
  obtain ⟨rfl, rfl, rfl⟩ := trodAll_nil r3
  obtain rfl : args = #[v0, v1, v2, v3] := by cases args; simp_all
  obtain ⟨rfl, rfl⟩ := trodVars_none hV
  obtain ⟨a0, rfl, rfl, rfl, w0⟩ := open_float Try.underlying22 (hval 0 22 v0 rfl rfl) h0
  obtain ⟨a1, rfl, rfl, rfl, w1⟩ := open_int Try.underlying39 (hval 1 39 v1 rfl rfl) h1
  obtain ⟨a2, rfl, rfl, rfl, w2⟩ := open_int Try.underlying39 (hval 2 39 v2 rfl rfl) h2
  obtain ⟨a3, rfl, rfl, rfl, w3⟩ := open_int Try.underlying39 (hval 3 39 v3 rfl rfl) h3
  clear hA0 hval0
  refine (walk a0 a1 a2 a3 W w0 w1 w2 w3).mono fun e W' ⟨he, bel⟩ => ?_
  subst he
  exact ⟨_, rfl, _, _, _, [], _, [], hW', trodAll_mk1 (shut_bool Try.underlying4 _), (trodAll_cons_mk (shut_float Try.underlying22 w0) (trodAll_cons_mk (shut_int Try.underlying39 w1) (trodAll_cons_mk (shut_int Try.underlying39 w2) (trodAll_cons_mk (shut_int Try.underlying39 w3) trodAll_mk0)))), rfl, bel.frame _, fun h => by cases h⟩

theorem over : Rows.floatyWithinRow.holds Try.pinned (OpenSpec.ofChange Rows.floatyWithinSpec) :=
  OpenClaim.holds_of_wide 8 Try.f8 rfl rfl rfl rfl rfl rfl rfl ⟨rfl, rfl, rfl, rfl, rfl⟩ rfl rfl rfl rfl rfl (by kernel_rfl) Try.func8 (by kernel_rfl)
    (of_decide_eq_true (by kernel_rfl)) (by unfold Func.isWrapper; first | (rw [if_pos (by decide +kernel)]; kernel_rfl) | (rw [if_neg (by decide +kernel)]; exact ⟨rfl, rfl⟩))
    (fun os started H enc _ => lifted os started H enc)

theorem proved : Rows.FloatyWithinSaid := over
end Go.Proofs.Ytodlmdbgkopdnaa.FloatyWithin
