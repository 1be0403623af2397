/- WideRises: for every two numbers of 64 bits, products, quotients, roots and logarithms of the greater one are not below those of the lesser one. No condition. -/
import Derived.Test.YtgbioeekdnglhaaWideZ
import Derived.WalkKit
import Derived.WalkSpells
import Derived.WalkLawsBesides
import Derived.Lib.Hide
import Derived.Handy
import Derived.ProofKit
import Derived.OpenShut
import Derived.ShutString
import Derived.ChangeOld
import Derived.Below
namespace Go.Proofs.Ytgbioeekdnglhaa.WideRises
open Go.Proofs.Ytgbioeekdnglhaa.W
open Go.ChangeShapes Go.WideShapes Go.ChangeAt Go.RowKit
open Go.ChangeMaps (open_string shut_string)
set_option linter.unusedVariables false
theorem own : ownKnob Try.prog.godebug = none := by kernel_rfl
theorem laidOut : laidOutB Try.prog = true := by kernel_rfl
theorem prods (a b c : Int) (h0 : 0 ≤ a) (h : a ≤ b) (hc : 0 ≤ c) : lessB (mulH b c) (mulL b c) (mulH a c) (mulL a c) = false := by
  rw [lessB_eq _ _ _ _ (by unfold mulL; omega) (by unfold mulL; omega) (by unfold mulL; omega) (by unfold mulL; omega), decide_eq_false_iff_not]
  have := Int.mul_le_mul_of_nonneg_right h hc
  unfold mulH mulL
  generalize a * c = p at *
  generalize b * c = q at *
  omega
theorem roots (a b c : Int) (h0 : 0 ≤ a) (h : a ≤ b) (hc : 0 ≤ c) : sqrtI a c ≤ sqrtI b c := by
  have h1 := (le_sqrtI a c (sqrtI a c) h0 hc (sqrtI_nonneg _ _)).1 (Int.le_refl _)
  exact (le_sqrtI b c (sqrtI a c) (by omega) hc (sqrtI_nonneg _ _)).2 (by omega)
theorem logs (a b : Int) (h0 : 0 ≤ a) (h : a ≤ b) : logI a ≤ logI b := by
  by_cases ha : a = 0
  · subst ha
    rw [logI_zero 0 (by omega)]
    by_cases hb : b = 0
    · subst hb; rw [logI_zero 0 (by omega)]; omega
    · obtain ⟨k, hk, _⟩ := logI_low b (by omega); omega
  · obtain ⟨k, hk, h1, h2⟩ := logI_low a (by omega)
    obtain ⟨m, hm, h3, h4⟩ := logI_low b (by omega)
    rw [hk, hm]
    have : (2 : Int) ^ k < 2 ^ (m + 1) := by omega
    rw [pow_cast, pow_cast] at this
    have := (Nat.pow_lt_pow_iff_right (by decide : 1 < 2)).1 (show 2 ^ k < 2 ^ (m + 1) by exact_mod_cast this)
    omega
theorem quots (a b c d : Int) (h : a ≤ b) (hd : 0 < d) : (a * 18446744073709551616 + c) / d ≤ (b * 18446744073709551616 + c) / d := Int.ediv_le_ediv hd (by omega)
set_option maxHeartbeats 400000 in
theorem rises_lt (a b c d : Int) (p0 : 0 ≤ a) (p2 : b < 18446744073709551616) (q0 : 0 ≤ c) (q1 : c < 18446744073709551616) (r0 : 0 ≤ d) (r1 : d < 18446744073709551616) (hlt : a < b) (w : World) :
    Calls Try.prog 6 #[.int .u64 a, .int .u64 b, .int .u64 c, .int .u64 d] w fun e w' => e = .returned (.bool true) ∧ Below w.heap.size w w' := by
  have p1 : a ≤ b := by omega
  have px : a < 18446744073709551616 := by omega
  have py : 0 ≤ b := by omega
  have l1 := prods a b c p0 p1 q0
  have l2 := roots a b c p0 p1 q0
  have l3 := logs a b p0 p1
  have L1 := Lib.hid l1
  have Q := Lib.hid (fun h => quots a b c d p1 h)
  clear l1
  go_enter Try.func6, Try.ntmps6
  go_wp2_with fail
  refine (mul_any a c p0 px q0 q1 _).mono ?_
  rintro e w1 ⟨rfl, hb1⟩
  go_wp2_with fail
  refine (mul_any b c py p2 q0 q1 _).mono ?_
  rintro e w2 ⟨rfl, hb2⟩
  have hB := hb1.trans (hb2.mono hb1.size)
  have z := hB.size
  clear hb1 hb2
  go_wp2_with fail
  refine (less_val _ _ _ _ _ L1.out _).mono ?_
  rintro e w3 ⟨rfl, rfl⟩
  go_wp2_with fail
  refine (sqrt_any a c p0 px q0 q1 _).mono ?_
  rintro e w4 ⟨rfl, hb3⟩
  have hB := hB.trans (hb3.mono z)
  have z := hB.size
  clear hb3
  go_wp2_with fail
  refine (sqrt_any b c py p2 q0 q1 _).mono ?_
  rintro e w5 ⟨rfl, hb4⟩
  have hB := hB.trans (hb4.mono z)
  have z := hB.size
  clear hb4
  go_wp2_with fail
  refine (log_any a p0 px _).mono ?_
  rintro e w6 ⟨rfl, rfl⟩
  go_wp2_with fail
  refine (log_any b py p2 _).mono ?_
  rintro e w7 ⟨rfl, rfl⟩
  go_wp2_with fail
  refine (shown_any _).mono ?_
  rintro e w8 ⟨rfl, hb5⟩
  have hB := hB.trans (hb5.mono z)
  have z := hB.size
  clear hb5
  go_wp2_with fail
  by_cases hy : d ≤ b
  · by_cases hx : d ≤ a
    · refine (div_no _ _ _ hx _).mono ?_
      rintro e w9 ⟨rfl, rfl⟩
      go_wp2_with fail
      refine (div_no _ _ _ hy _).mono ?_
      rintro e w10 ⟨rfl, rfl⟩
      go_wp2_with fail
      go_ret
      exact ⟨rfl, hB⟩
    · refine (div_yes _ _ _ p0 (by omega) r1 q0 q1 _).mono ?_
      rintro e w9 ⟨rfl, hb6⟩
      have hB := hB.trans (hb6.mono z)
      clear hb6
      go_wp2_with fail
      refine (div_no _ _ _ hy _).mono ?_
      rintro e w10 ⟨rfl, rfl⟩
      go_wp2_with fail
      go_ret
      exact ⟨rfl, hB⟩
  · have q2 := Q.out (by omega)
    refine (div_yes _ _ _ p0 (by omega) r1 q0 q1 _).mono ?_
    rintro e w9 ⟨rfl, hb6⟩
    have hB := hB.trans (hb6.mono z)
    have z := hB.size
    clear hb6
    go_wp2_with fail
    refine (div_yes _ _ _ py (by omega) r1 q0 q1 _).mono ?_
    rintro e w10 ⟨rfl, hb7⟩
    have hB := hB.trans (hb7.mono z)
    clear hb7
    go_wp2_with fail
    go_ret
    exact ⟨rfl, hB⟩
set_option maxHeartbeats 400000 in
theorem rises_gt (a b c d : Int) (p0 : 0 ≤ b) (p2 : a < 18446744073709551616) (q0 : 0 ≤ c) (q1 : c < 18446744073709551616) (r0 : 0 ≤ d) (r1 : d < 18446744073709551616) (hlt : b < a) (w : World) :
    Calls Try.prog 6 #[.int .u64 a, .int .u64 b, .int .u64 c, .int .u64 d] w fun e w' => e = .returned (.bool true) ∧ Below w.heap.size w w' := by
  have p1 : b ≤ a := by omega
  have px : b < 18446744073709551616 := by omega
  have py : 0 ≤ a := by omega
  have l1 := prods b a c p0 p1 q0
  have l2 := roots b a c p0 p1 q0
  have l3 := logs b a p0 p1
  have L1 := Lib.hid l1
  have Q := Lib.hid (fun h => quots b a c d p1 h)
  clear l1
  go_enter Try.func6, Try.ntmps6
  go_wp2_with fail
  refine (mul_any b c p0 px q0 q1 _).mono ?_
  rintro e w1 ⟨rfl, hb1⟩
  go_wp2_with fail
  refine (mul_any a c py p2 q0 q1 _).mono ?_
  rintro e w2 ⟨rfl, hb2⟩
  have hB := hb1.trans (hb2.mono hb1.size)
  have z := hB.size
  clear hb1 hb2
  go_wp2_with fail
  refine (less_val _ _ _ _ _ L1.out _).mono ?_
  rintro e w3 ⟨rfl, rfl⟩
  go_wp2_with fail
  refine (sqrt_any b c p0 px q0 q1 _).mono ?_
  rintro e w4 ⟨rfl, hb3⟩
  have hB := hB.trans (hb3.mono z)
  have z := hB.size
  clear hb3
  go_wp2_with fail
  refine (sqrt_any a c py p2 q0 q1 _).mono ?_
  rintro e w5 ⟨rfl, hb4⟩
  have hB := hB.trans (hb4.mono z)
  have z := hB.size
  clear hb4
  go_wp2_with fail
  refine (log_any b p0 px _).mono ?_
  rintro e w6 ⟨rfl, rfl⟩
  go_wp2_with fail
  refine (log_any a py p2 _).mono ?_
  rintro e w7 ⟨rfl, rfl⟩
  go_wp2_with fail
  refine (shown_any _).mono ?_
  rintro e w8 ⟨rfl, hb5⟩
  have hB := hB.trans (hb5.mono z)
  have z := hB.size
  clear hb5
  go_wp2_with fail
  by_cases hy : d ≤ a
  · by_cases hx : d ≤ b
    · refine (div_no _ _ _ hx _).mono ?_
      rintro e w9 ⟨rfl, rfl⟩
      go_wp2_with fail
      refine (div_no _ _ _ hy _).mono ?_
      rintro e w10 ⟨rfl, rfl⟩
      go_wp2_with fail
      go_ret
      exact ⟨rfl, hB⟩
    · refine (div_yes _ _ _ p0 (by omega) r1 q0 q1 _).mono ?_
      rintro e w9 ⟨rfl, hb6⟩
      have hB := hB.trans (hb6.mono z)
      clear hb6
      go_wp2_with fail
      refine (div_no _ _ _ hy _).mono ?_
      rintro e w10 ⟨rfl, rfl⟩
      go_wp2_with fail
      go_ret
      exact ⟨rfl, hB⟩
  · have q2 := Q.out (by omega)
    refine (div_yes _ _ _ p0 (by omega) r1 q0 q1 _).mono ?_
    rintro e w9 ⟨rfl, hb6⟩
    have hB := hB.trans (hb6.mono z)
    have z := hB.size
    clear hb6
    go_wp2_with fail
    refine (div_yes _ _ _ py (by omega) r1 q0 q1 _).mono ?_
    rintro e w10 ⟨rfl, hb7⟩
    have hB := hB.trans (hb7.mono z)
    clear hb7
    go_wp2_with fail
    go_ret
    exact ⟨rfl, hB⟩
set_option maxHeartbeats 400000 in
theorem rises_eq (a c d : Int) (p0 : 0 ≤ a) (p2 : a < 18446744073709551616) (q0 : 0 ≤ c) (q1 : c < 18446744073709551616) (r0 : 0 ≤ d) (r1 : d < 18446744073709551616) (w : World) :
    Calls Try.prog 6 #[.int .u64 a, .int .u64 a, .int .u64 c, .int .u64 d] w fun e w' => e = .returned (.bool true) ∧ Below w.heap.size w w' := by
  have p1 : a ≤ a := by omega
  have px : a < 18446744073709551616 := by omega
  have py : 0 ≤ a := by omega
  have l1 := prods a a c p0 p1 q0
  have l2 := roots a a c p0 p1 q0
  have l3 := logs a a p0 p1
  have L1 := Lib.hid l1
  have Q := Lib.hid (fun h => quots a a c d p1 h)
  clear l1
  go_enter Try.func6, Try.ntmps6
  go_wp2_with fail
  refine (mul_any a c p0 px q0 q1 _).mono ?_
  rintro e w1 ⟨rfl, hb1⟩
  go_wp2_with fail
  refine (mul_any a c py p2 q0 q1 _).mono ?_
  rintro e w2 ⟨rfl, hb2⟩
  have hB := hb1.trans (hb2.mono hb1.size)
  have z := hB.size
  clear hb1 hb2
  go_wp2_with fail
  refine (less_val _ _ _ _ _ L1.out _).mono ?_
  rintro e w3 ⟨rfl, rfl⟩
  go_wp2_with fail
  refine (sqrt_any a c p0 px q0 q1 _).mono ?_
  rintro e w4 ⟨rfl, hb3⟩
  have hB := hB.trans (hb3.mono z)
  have z := hB.size
  clear hb3
  go_wp2_with fail
  refine (sqrt_any a c py p2 q0 q1 _).mono ?_
  rintro e w5 ⟨rfl, hb4⟩
  have hB := hB.trans (hb4.mono z)
  have z := hB.size
  clear hb4
  go_wp2_with fail
  refine (log_any a p0 px _).mono ?_
  rintro e w6 ⟨rfl, rfl⟩
  go_wp2_with fail
  refine (log_any a py p2 _).mono ?_
  rintro e w7 ⟨rfl, rfl⟩
  go_wp2_with fail
  refine (shown_any _).mono ?_
  rintro e w8 ⟨rfl, hb5⟩
  have hB := hB.trans (hb5.mono z)
  have z := hB.size
  clear hb5
  go_wp2_with fail
  by_cases hy : d ≤ a
  · by_cases hx : d ≤ a
    · refine (div_no _ _ _ hx _).mono ?_
      rintro e w9 ⟨rfl, rfl⟩
      go_wp2_with fail
      refine (div_no _ _ _ hy _).mono ?_
      rintro e w10 ⟨rfl, rfl⟩
      go_wp2_with fail
      go_ret
      exact ⟨rfl, hB⟩
    · refine (div_yes _ _ _ p0 (by omega) r1 q0 q1 _).mono ?_
      rintro e w9 ⟨rfl, hb6⟩
      have hB := hB.trans (hb6.mono z)
      clear hb6
      go_wp2_with fail
      refine (div_no _ _ _ hy _).mono ?_
      rintro e w10 ⟨rfl, rfl⟩
      go_wp2_with fail
      go_ret
      exact ⟨rfl, hB⟩
  · have q2 := Q.out (by omega)
    refine (div_yes _ _ _ p0 (by omega) r1 q0 q1 _).mono ?_
    rintro e w9 ⟨rfl, hb6⟩
    have hB := hB.trans (hb6.mono z)
    have z := hB.size
    clear hb6
    go_wp2_with fail
    refine (div_yes _ _ _ py (by omega) r1 q0 q1 _).mono ?_
    rintro e w10 ⟨rfl, hb7⟩
    have hB := hB.trans (hb7.mono z)
    clear hb7
    go_wp2_with fail
    go_ret
    exact ⟨rfl, hB⟩
theorem walk (a0 a1 a2 a3 : Int) (w : World) (w0 : (Lit.int .u64 a0).wf = true) (w1 : (Lit.int .u64 a1).wf = true) (w2 : (Lit.int .u64 a2).wf = true) (w3 : (Lit.int .u64 a3).wf = true) :
    Calls Try.prog 6 #[.int .u64 a0, .int .u64 a1, .int .u64 a2, .int .u64 a3] w fun e w' => e = .returned (.bool true) ∧ Below w.heap.size w w' := by
  obtain ⟨p0, p1⟩ := u64_bounds w0
  obtain ⟨q0, q1⟩ := u64_bounds w1
  obtain ⟨r0, r1⟩ := u64_bounds w2
  obtain ⟨s0, s1⟩ := u64_bounds w3
  rcases Int.lt_trichotomy a0 a1 with h | h | h
  · exact rises_lt a0 a1 a2 a3 p0 q1 r0 r1 s0 s1 h w
  · subst h; exact rises_eq a0 a2 a3 p0 p1 r0 r1 s0 s1 w
  · exact rises_gt a0 a1 a2 a3 q0 p1 r0 r1 s0 s1 h w
set_option maxRecDepth 100000 in
theorem lifted (os : Os) (started : os.Started) (H : Type) (enc : TypeId × Value → H) :
    ReturnsInHanded {} Try.checked os 6 .any (Rows.wideRisesSpec.pre6 enc Try.prog Try.f6 Rows.wideRisesRow.domain false) (Rows.wideRisesSpec.post enc Try.prog Try.f6 false true false false) := by
  refine returnsInHanded_of_change (C := Try.checked) own started (by kernel_rfl) Try.func6
    (ChangeSpec.witness6 (enc := enc) (C := Try.checked) false ⟨#[], #[.int .u64 0, .int .u64 0, .int .u64 0, .int .u64 0], []⟩ 8 (by kernel_rfl) (by kernel_rfl) (by kernel_rfl) (by kernel_rfl)) ?_
  intro W base args ds gs before hval0 hW hcnd _
  have hval : ∀ (j : Nat) t v, Try.f6.params[j]? = some t → args[j]? = some v → Value.okWide Try.prog W .any base t v := hval0
  have hW' := hW
  obtain ⟨p, q, hA0, hV, rfl, hfz, hnd⟩ := hW
  have hA : DataW.TrodAll enc Try.prog W 0 (fun _ => true) true Try.f6.params.toList args.toList ds p := hA0
  rw [Try.params6] at hA hval
  obtain ⟨v0, vs0, d0, ds0, p0, q0, hargs, rfl, rfl, h0, r0⟩ := trodAll_cons hA
  obtain ⟨v1, vs1, d1, ds1, p1, q1, rfl, rfl, rfl, h1, r1⟩ := trodAll_cons r0
  obtain ⟨v2, vs2, d2, ds2, p2, q2, rfl, rfl, rfl, h2, r2⟩ := trodAll_cons r1
  obtain ⟨v3, vs3, d3, ds3, p3, q3, rfl, rfl, rfl, h3, r3⟩ := trodAll_cons r2
  obtain ⟨rfl, rfl, rfl⟩ := trodAll_nil r3
  obtain rfl : args = #[v0, v1, v2, v3] := by cases args; simp_all
  obtain ⟨rfl, rfl⟩ := trodVars_none hV
  obtain ⟨a0, rfl, rfl, rfl, w0⟩ := open_int Try.underlying22 (hval 0 22 v0 rfl rfl) h0
  obtain ⟨a1, rfl, rfl, rfl, w1⟩ := open_int Try.underlying22 (hval 1 22 v1 rfl rfl) h1
  obtain ⟨a2, rfl, rfl, rfl, w2⟩ := open_int Try.underlying22 (hval 2 22 v2 rfl rfl) h2
  obtain ⟨a3, rfl, rfl, rfl, w3⟩ := open_int Try.underlying22 (hval 3 22 v3 rfl rfl) h3
  clear hA0 hval0
  refine (walk a0 a1 a2 a3 W w0 w1 w2 w3).mono fun e W' ⟨he, bel⟩ => ?_
  subst he
  exact ⟨_, rfl, _, _, _, [], _, [], hW', trodAll_mk1 (shut_bool Try.underlying4 _), (trodAll_cons_mk (shut_int Try.underlying22 w0) (trodAll_cons_mk (shut_int Try.underlying22 w1) (trodAll_cons_mk (shut_int Try.underlying22 w2) (trodAll_cons_mk (shut_int Try.underlying22 w3) trodAll_mk0)))), rfl, bel.frame _, fun h => by cases h⟩

theorem over : Rows.wideRisesRow.holds Try.pinned (OpenSpec.ofChange Rows.wideRisesSpec) :=
  OpenClaim.holds_of_wide 6 Try.f6 rfl rfl rfl rfl rfl rfl rfl ⟨rfl, rfl, rfl, rfl, rfl⟩ rfl rfl rfl rfl rfl (by kernel_rfl) Try.func6 (by kernel_rfl)
    (of_decide_eq_true (by kernel_rfl)) (by unfold Func.isWrapper; first | (rw [if_pos (by decide +kernel)]; kernel_rfl) | (rw [if_neg (by decide +kernel)]; exact ⟨rfl, rfl⟩))
    (fun os started H enc _ => lifted os started H enc)

theorem proved : Rows.WideRisesSaid := over
end Go.Proofs.Ytgbioeekdnglhaa.WideRises
