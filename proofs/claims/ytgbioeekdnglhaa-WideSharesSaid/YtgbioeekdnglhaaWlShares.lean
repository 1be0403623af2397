/- WideShares: for every two numbers of 64 bits, their product divided by the second one is the first one with no rest, and with less than the second one added this is the rest; divided by nought nothing is told. No condition. -/
import Derived.Test.YtgbioeekdnglhaaWideZ
import Derived.WalkKit
import Derived.WalkSpells
import Derived.WalkLawsBesides
import Derived.Lib.Hide
import Derived.Handy
import Derived.ProofKit
import Derived.OpenShut
import Derived.ShutString
import Derived.ChangeOld
import Derived.Below
namespace Go.Proofs.Ytgbioeekdnglhaa.WideShares
open Go.Proofs.Ytgbioeekdnglhaa.W
open Go.ChangeShapes Go.WideShapes Go.ChangeAt Go.RowKit
open Go.ChangeMaps (open_string shut_string)
set_option linter.unusedVariables false
theorem own : ownKnob Try.prog.godebug = none := by kernel_rfl
theorem laidOut : laidOutB Try.prog = true := by kernel_rfl
theorem share (a b s : Int) (h0 : 0 ≤ a) (h1 : a < 18446744073709551616) (h2 : 0 < b) (h3 : b < 18446744073709551616) (h4 : 0 ≤ s) (h5 : s < b) :
    mulH a b < b ∧ (mulH a b * 18446744073709551616 + mulL a b) / b = a ∧ (mulH a b * 18446744073709551616 + mulL a b) % b = 0 ∧
    plusM (mulH a b) (mulL a b) 0 s = false ∧ 0 ≤ plusH (mulH a b) (mulL a b) 0 s ∧ plusH (mulH a b) (mulL a b) 0 s < b ∧ 0 ≤ plusL (mulL a b) s ∧ plusL (mulL a b) s < 18446744073709551616 ∧
    (plusH (mulH a b) (mulL a b) 0 s * 18446744073709551616 + plusL (mulL a b) s) / b = a ∧ (plusH (mulH a b) (mulL a b) 0 s * 18446744073709551616 + plusL (mulL a b) s) % b = s := by
  have p0 := Int.mul_nonneg h0 (show 0 ≤ b by omega)
  have p1 : a * b ≤ 18446744073709551615 * b := Int.mul_le_mul_of_nonneg_right (by omega) (by omega)
  have e0 : mulH a b * 18446744073709551616 + mulL a b = a * b := by unfold mulH mulL; generalize a * b = p at *; omega
  have e1 : plusH (mulH a b) (mulL a b) 0 s * 18446744073709551616 + plusL (mulL a b) s = a * b + s := by
    unfold plusH plusL mulH mulL; generalize a * b = p at *; omega
  rw [e0, e1]
  refine ⟨by unfold mulH; generalize a * b = p at *; omega, Int.mul_ediv_cancel _ (by omega), Int.mul_emod_left _ _, ?_, by unfold plusH mulH; omega, ?_, by unfold plusL; omega, by unfold plusL; omega, ?_, ?_⟩
  · unfold plusM mulH mulL
    rw [decide_eq_false_iff_not]; generalize a * b = p at *; omega
  · unfold plusH mulH mulL
    generalize a * b = p at *; omega
  · rw [Int.add_comm, Int.add_mul_ediv_right _ _ (by omega), Int.ediv_eq_zero_of_lt h4 h5]; omega
  · rw [Int.add_comm, Int.add_mul_emod_self_right, Int.emod_eq_of_lt h4 h5]
set_option maxHeartbeats 400000 in
theorem walk (a0 a1 a2 : Int) (w : World) (w0 : (Lit.int .u64 a0).wf = true) (w1 : (Lit.int .u64 a1).wf = true) (w2 : (Lit.int .u64 a2).wf = true) :
    Calls Try.prog 9 #[.int .u64 a0, .int .u64 a1, .int .u64 a2] w fun e w' => e = .returned (.bool true) ∧ Below w.heap.size w w' := by
  obtain ⟨p0, p1⟩ := u64_bounds w0
  obtain ⟨q0, q1⟩ := u64_bounds w1
  obtain ⟨r0, r1⟩ := u64_bounds w2
  clear w0 w1 w2
  obtain ⟨m1, m2, m3, m4⟩ := mul_range a0 a1 p0 p1 q0 q1
  by_cases h : a1 = 0
  · subst h
    go_enter Try.func9, Try.ntmps9
    go_wp2_with fail
    refine (mul_any a0 0 p0 p1 q0 q1 _).mono ?_
    rintro e w1 ⟨rfl, hb1⟩
    go_wp2_with fail
    refine (div_no _ _ 0 m1 _).mono ?_
    rintro e w2 ⟨rfl, rfl⟩
    go_wp2_with fail
    refine (shown_any _).mono ?_
    rintro e w3 ⟨rfl, hb2⟩
    have hB := hb1.trans (hb2.mono hb1.size)
    clear hb1 hb2
    go_wp2_with fail
    go_ret
    exact ⟨rfl, hB⟩
  · have s0 := Int.emod_nonneg a2 h
    have s1 := Int.emod_lt_of_pos a2 (show 0 < a1 by omega)
    obtain ⟨c1, c2, c3, c4, c5, c6, c7, c8, c9, c10⟩ := share a0 a1 (a2 % a1) p0 p1 (by omega) q1 s0 s1
    have hb : (a1 == 0) = false := by simp [h]
    have hlt : a2 % a1 < 18446744073709551616 := by omega
    have hpos : 1 ≤ a1 := by omega
    obtain ⟨s, hs⟩ : ∃ s, a2 % a1 = s := ⟨_, rfl⟩
    rw [hs] at s0 s1 c4 c5 c6 c7 c8 c9 c10 hlt
    have hss : (s == a2 % a1) = true := by simp [hs]
    have HS := Lib.hid hs
    have C2 := Lib.hid c2
    have C3 := Lib.hid c3
    have C4 := Lib.hid c4
    have C9 := Lib.hid c9
    have C10 := Lib.hid c10
    clear h hs c2 c3 c4 c9 c10
    go_enter Try.func9, Try.ntmps9
    go_wp2_with fail
    refine (mul_any a0 a1 p0 p1 q0 q1 _).mono ?_
    rintro e w1 ⟨rfl, hb1⟩
    go_wp2_with fail
    refine (div_yes _ _ a1 m1 c1 q1 m3 m4 _).mono ?_
    rintro e w2 ⟨rfl, hb2⟩
    rw [C2.out, C3.out]
    have hB := hb1.trans (hb2.mono hb1.size)
    have z := hB.size
    clear hb1 hb2
    go_wp2_with fail
    rw [HS.out]
    refine (plus_any _ _ 0 s m1 m2 m3 m4 (by omega) (by omega) s0 hlt _).mono ?_
    rintro e w3 ⟨rfl, hb3⟩
    rw [C4.out]
    have hB := hB.trans (hb3.mono z)
    have z := hB.size
    clear hb3
    go_wp2_with fail
    refine (div_yes _ _ a1 c5 c6 q1 c7 c8 _).mono ?_
    rintro e w4 ⟨rfl, hb4⟩
    rw [C9.out, C10.out]
    have hB := hB.trans (hb4.mono z)
    have z := hB.size
    clear hb4
    go_wp2_with fail
    refine (shown_any _).mono ?_
    rintro e w5 ⟨rfl, hb5⟩
    have hB := hB.trans (hb5.mono z)
    clear hb5
    go_wp2_with fail
    go_ret
    exact ⟨rfl, hB⟩
set_option maxRecDepth 100000 in
theorem lifted (os : Os) (started : os.Started) (H : Type) (enc : TypeId × Value → H) :
    ReturnsInHanded {} Try.checked os 9 .any (Rows.wideSharesSpec.pre6 enc Try.prog Try.f9 Rows.wideSharesRow.domain false) (Rows.wideSharesSpec.post enc Try.prog Try.f9 false true false false) := by
  refine returnsInHanded_of_change (C := Try.checked) own started (by kernel_rfl) Try.func9
    (ChangeSpec.witness6 (enc := enc) (C := Try.checked) false ⟨#[], #[.int .u64 0, .int .u64 0, .int .u64 0], []⟩ 8 (by kernel_rfl) (by kernel_rfl) (by kernel_rfl) (by kernel_rfl)) ?_
  intro W base args ds gs before hval0 hW hcnd _
  have hval : ∀ (j : Nat) t v, Try.f9.params[j]? = some t → args[j]? = some v → Value.okWide Try.prog W .any base t v := hval0
  have hW' := hW
  obtain ⟨p, q, hA0, hV, rfl, hfz, hnd⟩ := hW
  have hA : DataW.TrodAll enc Try.prog W 0 (fun _ => true) true Try.f9.params.toList args.toList ds p := hA0
  rw [Try.params9] at hA hval
  obtain ⟨v0, vs0, d0, ds0, p0, q0, hargs, rfl, rfl, h0, r0⟩ := trodAll_cons hA
  obtain ⟨v1, vs1, d1, ds1, p1, q1, rfl, rfl, rfl, h1, r1⟩ := trodAll_cons r0
  obtain ⟨v2, vs2, d2, ds2, p2, q2, rfl, rfl, rfl, h2, r2⟩ := trodAll_cons r1
  obtain ⟨rfl, rfl, rfl⟩ := trodAll_nil r2
  obtain rfl : args = #[v0, v1, v2] := by cases args; simp_all
  obtain ⟨rfl, rfl⟩ := trodVars_none hV
  obtain ⟨a0, rfl, rfl, rfl, w0⟩ := open_int Try.underlying22 (hval 0 22 v0 rfl rfl) h0
  obtain ⟨a1, rfl, rfl, rfl, w1⟩ := open_int Try.underlying22 (hval 1 22 v1 rfl rfl) h1
  obtain ⟨a2, rfl, rfl, rfl, w2⟩ := open_int Try.underlying22 (hval 2 22 v2 rfl rfl) h2
  clear hA0 hval0
  refine (walk a0 a1 a2 W w0 w1 w2).mono fun e W' ⟨he, bel⟩ => ?_
  subst he
  exact ⟨_, rfl, _, _, _, [], _, [], hW', trodAll_mk1 (shut_bool Try.underlying4 _), (trodAll_cons_mk (shut_int Try.underlying22 w0) (trodAll_cons_mk (shut_int Try.underlying22 w1) (trodAll_cons_mk (shut_int Try.underlying22 w2) trodAll_mk0))), rfl, bel.frame _, fun h => by cases h⟩

theorem over : Rows.wideSharesRow.holds Try.pinned (OpenSpec.ofChange Rows.wideSharesSpec) :=
  OpenClaim.holds_of_wide 9 Try.f9 rfl rfl rfl rfl rfl rfl rfl ⟨rfl, rfl, rfl, rfl, rfl⟩ rfl rfl rfl rfl rfl (by kernel_rfl) Try.func9 (by kernel_rfl)
    (of_decide_eq_true (by kernel_rfl)) (by unfold Func.isWrapper; first | (rw [if_pos (by decide +kernel)]; kernel_rfl) | (rw [if_neg (by decide +kernel)]; exact ⟨rfl, rfl⟩))
    (fun os started H enc _ => lifted os started H enc)

theorem proved : Rows.WideSharesSaid := over
end Go.Proofs.Ytgbioeekdnglhaa.WideShares
