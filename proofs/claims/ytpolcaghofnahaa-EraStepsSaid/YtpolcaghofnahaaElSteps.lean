/- EraSteps: for every stamp and every two int64s, what is put to a stamp one behind the other is the same in either order; half an era away is the least difference; a stamp is its parts. No condition. -/
import Derived.Test.YtpolcaghofnahaaEraZ
import Derived.WalkKit
import Derived.WalkSpells
import Derived.WalkLawsBesides
import Derived.Lib.Hide
import Derived.Handy
import Derived.ProofKit
import Derived.OpenShut
import Derived.ShutString
import Derived.ChangeOld
import Derived.Below
namespace Go.Proofs.Ytpolcaghofnahaa.EraSteps
open Go.Proofs.Ytpolcaghofnahaa.W
open Go.ChangeShapes Go.WideShapes Go.ChangeAt Go.RowKit
open Go.ChangeMaps (open_string shut_string)
set_option linter.unusedVariables false
theorem own : ownKnob Try.prog.godebug = none := by kernel_rfl
theorem laidOut : laidOutB Try.prog = true := by kernel_rfl
set_option linter.unusedSimpArgs false
set_option maxHeartbeats 1600000 in
theorem walk (a0 a1 a2 : Int) (w : World) (w0 : (Lit.int .u64 a0).wf = true) (w1 : (Lit.int .i64 a1).wf = true) (w2 : (Lit.int .i64 a2).wf = true) :
    Calls Try.prog 8 #[.int .u64 a0, .int .i64 a1, .int .i64 a2] w fun e w' => e = .returned (.bool true) ∧ Below w.heap.size w w' := by
  obtain ⟨l0, u0⟩ := u64_bounds w0
  obtain ⟨l1, u1⟩ := i64_bounds w1
  obtain ⟨l2, u2⟩ := i64_bounds w2
  clear w0 w1 w2
  have cz := eshown_any
  have c1 := pl_any a0 a1 l0 u0 l1 u1
  obtain ⟨p0, p1⟩ := plI_range a0 a1
  have c2 := pl_any (plI a0 a1) a2 p0 p1 l2 u2
  have c3 := secs_any a0 l0 u0
  have c4 := pl_any a0 a2 l0 u0 l2 u2
  obtain ⟨q0, q1⟩ := plI_range a0 a2
  have c5 := pl_any (plI a0 a2) a1 q0 q1 l1 u1
  rw [show plI (plI a0 a2) a1 = plI (plI a0 a1) a2 by unfold plI; omega] at c5
  obtain ⟨h, hh⟩ : ∃ h, (a0 + 9223372036854775808) % 18446744073709551616 = h := ⟨_, rfl⟩
  have e1 : IntKind.u64.wrap (a0 + 9223372036854775808) = h := by rw [IntKind.wrap_u64, hh]
  obtain ⟨h0, h1⟩ : 0 ≤ h ∧ h < 18446744073709551616 := by omega
  have c6 := df_any h a0 h0 h1 l0 u0
  rw [show dfI h a0 = -9223372036854775807 by unfold dfI; omega] at c6
  have c7 := df_any a0 a0 l0 u0 l0 u0
  rw [show dfI a0 a0 = 0 by unfold dfI; omega] at c7
  obtain ⟨s, hs⟩ : ∃ s, a0 / 4294967296 = s := ⟨_, rfl⟩
  obtain ⟨r, hr⟩ : ∃ r, a0 % 4294967296 = r := ⟨_, rfl⟩
  have eo := or_halves s r (by omega) (by omega) (by omega) (by omega)
  rw [show s * 4294967296 + r = a0 by omega] at eo
  rw [hs, hr] at c3
  obtain ⟨s0, s1, r0, r1⟩ : 0 ≤ s ∧ s < 4294967296 ∧ 0 ≤ r ∧ r < 4294967296 := by omega
  have e2 : IntKind.u64.wrap (s * 4294967296) = s * 4294967296 := IntWalk.u64_in _ (by omega)
  generalize plI (plI a0 a1) a2 = x at *
  generalize plI a0 a1 = p at *
  generalize plI a0 a2 = q at *
  clear hh hs hr
  go_enter Try.func8, Try.ntmps8
  go_wp2_with fail
  (with_reducible refine (c1 _).mono ?_)
  rintro e w' ⟨rfl, rfl⟩
  go_wp2_with fail
  (with_reducible refine (c2 _).mono ?_)
  rintro e w' ⟨rfl, rfl⟩
  go_wp2_with fail
  (with_reducible refine (c3 _).mono ?_)
  rintro e w3 ⟨rfl, hb⟩
  have hB := hb
  clear hb
  go_wp2_with fail
  (with_reducible refine (c4 _).mono ?_)
  rintro e w' ⟨rfl, rfl⟩
  go_wp2_with fail
  (with_reducible refine (c5 _).mono ?_)
  rintro e w' ⟨rfl, rfl⟩
  go_wp2_with fail
  (with_reducible refine (c6 _).mono ?_)
  rintro e w6 ⟨rfl, hb⟩
  replace hB := hB.trans (hb.mono hB.size)
  clear hb
  go_wp2_with fail
  (with_reducible refine (c7 _).mono ?_)
  rintro e w7 ⟨rfl, hb⟩
  replace hB := hB.trans (hb.mono hB.size)
  clear hb
  go_wp2_with fail
  (with_reducible refine (cz _).mono ?_)
  rintro e w8 ⟨rfl, hb⟩
  replace hB := hB.trans (hb.mono hB.size)
  clear hb
  go_wp2_with fail
  go_ret
  exact ⟨rfl, hB⟩
set_option maxRecDepth 100000 in
theorem lifted (os : Os) (started : os.Started) (H : Type) (enc : TypeId × Value → H) :
    ReturnsInHanded {} Try.checked os 8 .any (Rows.eraStepsSpec.pre6 enc Try.prog Try.f8 Rows.eraStepsRow.domain false) (Rows.eraStepsSpec.post enc Try.prog Try.f8 false true false false) := by
  refine returnsInHanded_of_change (C := Try.checked) own started (by kernel_rfl) Try.func8
    (ChangeSpec.witness6 (enc := enc) (C := Try.checked) false ⟨#[], #[.int .u64 0, .int .i64 0, .int .i64 0], []⟩ 8 (by kernel_rfl) (by kernel_rfl) (by kernel_rfl) (by kernel_rfl)) ?_
  intro W base args ds gs before hval0 hW hcnd _
  have hval : ∀ (j : Nat) t v, Try.f8.params[j]? = some t → args[j]? = some v → Value.okWide Try.prog W .any base t v := hval0
  have hW' := hW
  obtain ⟨p, q, hA0, hV, rfl, hfz, hnd⟩ := hW
  have hA : DataW.TrodAll enc Try.prog W 0 (fun _ => true) true Try.f8.params.toList args.toList ds p := hA0
  rw [Try.params8] at hA hval
  obtain ⟨v0, vs0, d0, ds0, p0, q0, hargs, rfl, rfl, h0, r0⟩ := trodAll_cons hA
  obtain ⟨v1, vs1, d1, ds1, p1, q1, rfl, rfl, rfl, h1, r1⟩ := trodAll_cons r0
  obtain ⟨v2, vs2, d2, ds2, p2, q2, rfl, rfl, rfl, h2, r2⟩ := trodAll_cons r1
  obtain ⟨rfl, rfl, rfl⟩ := trodAll_nil r2
  obtain rfl : args = #[v0, v1, v2] := by cases args; simp_all
  obtain ⟨rfl, rfl⟩ := trodVars_none hV
  obtain ⟨a0, rfl, rfl, rfl, w0⟩ := open_int Try.underlying22 (hval 0 22 v0 rfl rfl) h0
  obtain ⟨a1, rfl, rfl, rfl, w1⟩ := open_int Try.underlying2 (hval 1 2 v1 rfl rfl) h1
  obtain ⟨a2, rfl, rfl, rfl, w2⟩ := open_int Try.underlying2 (hval 2 2 v2 rfl rfl) h2
  clear hA0 hval0
  refine (walk a0 a1 a2 W w0 w1 w2).mono fun e W' ⟨he, bel⟩ => ?_
  subst he
  exact ⟨_, rfl, _, _, _, [], _, [], hW', trodAll_mk1 (shut_bool Try.underlying4 _), (trodAll_cons_mk (shut_int Try.underlying22 w0) (trodAll_cons_mk (shut_int Try.underlying2 w1) (trodAll_cons_mk (shut_int Try.underlying2 w2) trodAll_mk0))), rfl, bel.frame _, fun h => by cases h⟩

theorem over : Rows.eraStepsRow.holds Try.pinned (OpenSpec.ofChange Rows.eraStepsSpec) :=
  OpenClaim.holds_of_wide 8 Try.f8 rfl rfl rfl rfl rfl rfl rfl ⟨rfl, rfl, rfl, rfl, rfl⟩ rfl rfl rfl rfl rfl (by kernel_rfl) Try.func8 (by kernel_rfl)
    (of_decide_eq_true (by kernel_rfl)) (by unfold Func.isWrapper; first | (rw [if_pos (by decide +kernel)]; kernel_rfl) | (rw [if_neg (by decide +kernel)]; exact ⟨rfl, rfl⟩))
    (fun os started H enc _ => lifted os started H enc)

theorem proved : Rows.EraStepsSaid := over
end Go.Proofs.Ytpolcaghofnahaa.EraSteps
