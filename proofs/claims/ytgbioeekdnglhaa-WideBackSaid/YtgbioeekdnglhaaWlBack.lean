/- WideBack: for every number of 128 bits and every divisor of 64 bits, the quotient is told just where the higher half is below the divisor, and then the quotient times the divisor and the rest, which is below it, is the number; else the answers are 0, 0 and false. No condition. -/
import Derived.Test.YtgbioeekdnglhaaWideZ
import Derived.WalkKit
import Derived.WalkSpells
import Derived.WalkLawsBesides
import Derived.Lib.Hide
import Derived.Handy
import Derived.ProofKit
import Derived.OpenShut
import Derived.ShutString
import Derived.ChangeOld
import Derived.Below
namespace Go.Proofs.Ytgbioeekdnglhaa.WideBack
open Go.Proofs.Ytgbioeekdnglhaa.W
open Go.ChangeShapes Go.WideShapes Go.ChangeAt Go.RowKit
open Go.ChangeMaps (open_string shut_string)
set_option linter.unusedVariables false
theorem own : ownKnob Try.prog.godebug = none := by kernel_rfl
theorem laidOut : laidOutB Try.prog = true := by kernel_rfl
theorem back (hi lo d : Int) (h0 : 0 ≤ hi) (hd : hi < d) (hd' : d < 18446744073709551616) (l0 : 0 ≤ lo) (l1 : lo < 18446744073709551616) :
    0 ≤ (hi * 18446744073709551616 + lo) / d ∧ (hi * 18446744073709551616 + lo) / d < 18446744073709551616 ∧ 0 ≤ (hi * 18446744073709551616 + lo) % d ∧ (hi * 18446744073709551616 + lo) % d < d ∧
    plusH (mulH ((hi * 18446744073709551616 + lo) / d) d) (mulL ((hi * 18446744073709551616 + lo) / d) d) 0 ((hi * 18446744073709551616 + lo) % d) = hi ∧
    plusL (mulL ((hi * 18446744073709551616 + lo) / d) d) ((hi * 18446744073709551616 + lo) % d) = lo ∧
    plusM (mulH ((hi * 18446744073709551616 + lo) / d) d) (mulL ((hi * 18446744073709551616 + lo) / d) d) 0 ((hi * 18446744073709551616 + lo) % d) = false := by
  have e := Int.mul_ediv_add_emod (hi * 18446744073709551616 + lo) d
  have r0 := Int.emod_nonneg (hi * 18446744073709551616 + lo) (show d ≠ 0 by omega)
  have r1 := Int.emod_lt_of_pos (hi * 18446744073709551616 + lo) (show 0 < d by omega)
  have q0 : 0 ≤ (hi * 18446744073709551616 + lo) / d := Int.ediv_nonneg (by omega) (by omega)
  have q1 : (hi * 18446744073709551616 + lo) / d < 18446744073709551616 := Int.ediv_lt_of_lt_mul (by omega) (by omega)
  generalize (hi * 18446744073709551616 + lo) / d = q at *
  generalize (hi * 18446744073709551616 + lo) % d = r at *
  rw [Int.mul_comm] at e
  unfold plusH plusL plusM mulH mulL
  have p0 := Int.mul_nonneg q0 (show 0 ≤ d by omega)
  generalize q * d = p at *
  refine ⟨q0, q1, r0, r1, by omega, by omega, ?_⟩
  rw [decide_eq_false_iff_not]; omega
set_option maxHeartbeats 400000 in
theorem walk (a0 a1 a2 : Int) (w : World) (w0 : (Lit.int .u64 a0).wf = true) (w1 : (Lit.int .u64 a1).wf = true) (w2 : (Lit.int .u64 a2).wf = true) :
    Calls Try.prog 4 #[.int .u64 a0, .int .u64 a1, .int .u64 a2] w fun e w' => e = .returned (.bool true) ∧ Below w.heap.size w w' := by
  obtain ⟨p0, p1⟩ := u64_bounds w0
  obtain ⟨q0, q1⟩ := u64_bounds w1
  obtain ⟨r0, r1⟩ := u64_bounds w2
  clear w0 w1 w2
  by_cases h : a0 < a2
  · obtain ⟨b0, b1, b2, b3, e1, e2, e3⟩ := back a0 a1 a2 p0 h r1 q0 q1
    obtain ⟨q, hq⟩ : ∃ q, (a0 * 18446744073709551616 + a1) / a2 = q := ⟨_, rfl⟩
    obtain ⟨r, hr⟩ : ∃ r, (a0 * 18446744073709551616 + a1) % a2 = r := ⟨_, rfl⟩
    rw [hq] at b0 b1 e1 e2 e3
    rw [hr] at b2 b3 e1 e2 e3
    have HQ := Lib.hid hq
    have HR := Lib.hid hr
    have E1 := Lib.hid e1
    have E2 := Lib.hid e2
    have E3 := Lib.hid e3
    clear hq hr e1 e2 e3
    obtain ⟨m1, m2, m3, m4⟩ := mul_range q a2 b0 b1 r0 r1
    have b4 : r < 18446744073709551616 := by omega
    go_enter Try.func4, Try.ntmps4
    go_wp2_with fail
    refine (div_yes a0 a1 a2 p0 h r1 q0 q1 _).mono ?_
    rintro e w1 ⟨rfl, hb1⟩
    rw [HQ.out, HR.out]
    go_wp2_with fail
    refine (shown_any _).mono ?_
    rintro e w2 ⟨rfl, hb2⟩
    have hB := hb1.trans (hb2.mono hb1.size)
    have z := hB.size
    clear hb1 hb2
    go_wp2_with fail
    refine (mul_any q a2 b0 b1 r0 r1 _).mono ?_
    rintro e w3 ⟨rfl, hb3⟩
    have hB := hB.trans (hb3.mono z)
    have z := hB.size
    clear hb3
    go_wp2_with fail
    refine (plus_any _ _ 0 r m1 m2 m3 m4 (by omega) (by omega) b2 b4 _).mono ?_
    rintro e w4 ⟨rfl, hb4⟩
    rw [E1.out, E2.out, E3.out]
    have hB := hB.trans (hb4.mono z)
    clear hb4
    go_wp2_with fail
    go_ret
    exact ⟨rfl, hB⟩
  · have h' : a2 ≤ a0 := by omega
    go_enter Try.func4, Try.ntmps4
    go_wp2_with fail
    refine (div_no a0 a1 a2 h' _).mono ?_
    rintro e w1 ⟨rfl, rfl⟩
    go_wp2_with fail
    refine (shown_any _).mono ?_
    rintro e w2 ⟨rfl, hb2⟩
    go_wp2_with fail
    go_ret
    exact ⟨rfl, hb2⟩
set_option maxRecDepth 100000 in
theorem lifted (os : Os) (started : os.Started) (H : Type) (enc : TypeId × Value → H) :
    ReturnsInHanded {} Try.checked os 4 .any (Rows.wideBackSpec.pre6 enc Try.prog Try.f4 Rows.wideBackRow.domain false) (Rows.wideBackSpec.post enc Try.prog Try.f4 false true false false) := by
  refine returnsInHanded_of_change (C := Try.checked) own started (by kernel_rfl) Try.func4
    (ChangeSpec.witness6 (enc := enc) (C := Try.checked) false ⟨#[], #[.int .u64 0, .int .u64 0, .int .u64 0], []⟩ 8 (by kernel_rfl) (by kernel_rfl) (by kernel_rfl) (by kernel_rfl)) ?_
  intro W base args ds gs before hval0 hW hcnd _
  have hval : ∀ (j : Nat) t v, Try.f4.params[j]? = some t → args[j]? = some v → Value.okWide Try.prog W .any base t v := hval0
  have hW' := hW
  obtain ⟨p, q, hA0, hV, rfl, hfz, hnd⟩ := hW
  have hA : DataW.TrodAll enc Try.prog W 0 (fun _ => true) true Try.f4.params.toList args.toList ds p := hA0
  rw [Try.params4] at hA hval
  obtain ⟨v0, vs0, d0, ds0, p0, q0, hargs, rfl, rfl, h0, r0⟩ := trodAll_cons hA
  obtain ⟨v1, vs1, d1, ds1, p1, q1, rfl, rfl, rfl, h1, r1⟩ := trodAll_cons r0
  obtain ⟨v2, vs2, d2, ds2, p2, q2, rfl, rfl, rfl, h2, r2⟩ := trodAll_cons r1
  obtain ⟨rfl, rfl, rfl⟩ := trodAll_nil r2
  obtain rfl : args = #[v0, v1, v2] := by cases args; simp_all
  obtain ⟨rfl, rfl⟩ := trodVars_none hV
  obtain ⟨a0, rfl, rfl, rfl, w0⟩ := open_int Try.underlying22 (hval 0 22 v0 rfl rfl) h0
  obtain ⟨a1, rfl, rfl, rfl, w1⟩ := open_int Try.underlying22 (hval 1 22 v1 rfl rfl) h1
  obtain ⟨a2, rfl, rfl, rfl, w2⟩ := open_int Try.underlying22 (hval 2 22 v2 rfl rfl) h2
  clear hA0 hval0
  refine (walk a0 a1 a2 W w0 w1 w2).mono fun e W' ⟨he, bel⟩ => ?_
  subst he
  exact ⟨_, rfl, _, _, _, [], _, [], hW', trodAll_mk1 (shut_bool Try.underlying4 _), (trodAll_cons_mk (shut_int Try.underlying22 w0) (trodAll_cons_mk (shut_int Try.underlying22 w1) (trodAll_cons_mk (shut_int Try.underlying22 w2) trodAll_mk0))), rfl, bel.frame _, fun h => by cases h⟩

theorem over : Rows.wideBackRow.holds Try.pinned (OpenSpec.ofChange Rows.wideBackSpec) :=
  OpenClaim.holds_of_wide 4 Try.f4 rfl rfl rfl rfl rfl rfl rfl ⟨rfl, rfl, rfl, rfl, rfl⟩ rfl rfl rfl rfl rfl (by kernel_rfl) Try.func4 (by kernel_rfl)
    (of_decide_eq_true (by kernel_rfl)) (by unfold Func.isWrapper; first | (rw [if_pos (by decide +kernel)]; kernel_rfl) | (rw [if_neg (by decide +kernel)]; exact ⟨rfl, rfl⟩))
    (fun os started H enc _ => lifted os started H enc)

theorem proved : Rows.WideBackSaid := over
end Go.Proofs.Ytgbioeekdnglhaa.WideBack
