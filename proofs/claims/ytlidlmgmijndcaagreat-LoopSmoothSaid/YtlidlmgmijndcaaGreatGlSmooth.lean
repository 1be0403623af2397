/- LoopSmooth: what is smoothed lies between both, but for rounding: of what stays the same it is that, and nought stays nought. No further condition. (Written by wip/genLp.py.) -/
import Derived.Test.YtlidlmgmijndcaaGreatLpZ
import Derived.Test.YtlidlmgmijndcaaGreatLpB
import Derived.WalkKit
import Derived.WalkSpells
import Derived.WalkLawsBesides
import Derived.Lib.Hide
import Derived.Handy
import Derived.ProofKit
import Derived.OpenShut
import Derived.ShutString
import Derived.ChangeOld
import Derived.Below
namespace Go.Proofs.YtlidlmgmijndcaaGreat.LoopSmooth
open Go.RowKit Go.Sort Go.Proofs.YtlidlmgmijndcaaGreat.W
open Go.ChangeShapes Go.WideShapes Go.ChangeAt
open Go.ChangeMaps (open_string shut_string)
set_option linter.unusedVariables false
set_option linter.unusedSimpArgs false
theorem own : ownKnob Tryz.prog.godebug = none := by kernel_rfl
theorem laidOut : laidOutB Tryz.prog = true := by kernel_rfl
set_option maxRecDepth 100000 in
set_option maxHeartbeats 12800000 in
theorem walk (a b : Int) (w : World) (wa : (Lit.int .u32 a).wf = true) (wb : (Lit.int .u32 b).wf = true) :
    Calls Tryz.prog 6 #[.int .u32 a, .int .u32 b] w fun e w' => e = .returned (.bool true) ∧ Below w.heap.size w w' := by
  have a0 := u32_bounds wa
  have b0 := u32_bounds wb
  clear wa wb
  have cs := shown19_any
  have v1 : IntKind.i64.wrap a = a := IntWalk.i64_in _ (by omega)
  have v2 : IntKind.i64.wrap b = b := IntWalk.i64_in _ (by omega)
  have v3 : IntKind.i64.wrap (a * 256) = a * 256 := IntWalk.i64_in _ (by omega)
  have c1 := lpsmooth_any a b (by omega) (by omega)
  have c2 := lpsmooth_any (a * 256) (a * 256) (by omega) (by omega)
  have c3 := lpsmooth_any 0 0 (by decide) (by decide)
  rw [smooth_zero] at c3
  obtain ⟨x0, x1⟩ := smooth_in (a := a) (b := b) (by omega) (by omega)
  obtain ⟨z0, z1⟩ := smooth_in (a := a * 256) (b := a * 256) (by omega) (by omega)
  obtain ⟨mx, hmx⟩ : ∃ mx, max a b = mx := ⟨_, rfl⟩
  have hmax := fun ts t W => run_max19u a b mx hmx ts t W
  have v4 : IntKind.i64.wrap mx = mx := IntWalk.i64_in _ (by omega)
  rw [hmx] at x1
  generalize smoothL a b = x at *
  generalize smoothL (a * 256) (a * 256) = z at *
  have t1 : decide (0 ≤ x) = true := decide_eq_true x0
  have t2 : decide (x ≤ mx) = true := decide_eq_true x1
  have t3 : decide (z ≤ a * 256) = true := decide_eq_true (by omega)
  clear hmx z0 z1
  go_enter Tryz.func6, Tryz.ntmps6
  go_wp2_with fail
  (with_reducible refine (c1 _).mono ?_)
  rintro e w1 ⟨rfl, B1⟩
  go_wp2_with fail
  (with_reducible refine (c2 _).mono ?_)
  rintro e w2 ⟨rfl, hw⟩
  have B2 := B1.trans (hw.mono B1.size)
  clear hw B1
  go_wp2_with fail
  (with_reducible refine (c3 _).mono ?_)
  rintro e w3 ⟨rfl, hw⟩
  have B3 := B2.trans (hw.mono B2.size)
  clear hw B2
  go_wp2_with fail
  (with_reducible refine (cs _).mono ?_)
  rintro e w4 ⟨rfl, hw⟩
  have B4 := B3.trans (hw.mono B3.size)
  clear hw B3
  go_wp2_with fail
  go_ret
  exact ⟨by first | rfl | (simp; done), B4⟩
set_option maxRecDepth 100000 in
theorem lifted (os : Os) (started : os.Started) (H : Type) (enc : TypeId × Value → H) :
    ReturnsInHanded {} Tryz.checked os 6 .any (Rows.loopSmoothSpec.pre6 enc Tryz.prog Tryz.f6 Rows.loopSmoothRow.domain false) (Rows.loopSmoothSpec.post enc Tryz.prog Tryz.f6 false true false false) := by
  refine returnsInHanded_of_change (C := Tryz.checked) own started (by kernel_rfl) Tryz.func6
    (ChangeSpec.witness6 (enc := enc) (C := Tryz.checked) false ⟨#[], #[.int .u32 0, .int .u32 0], []⟩ 8 (by kernel_rfl) (by kernel_rfl) (by kernel_rfl) (by kernel_rfl)) ?_
  intro W base args ds gs before hval0 hW hcnd _
  have hval : ∀ (j : Nat) t v, Tryz.f6.params[j]? = some t → args[j]? = some v → Value.okWide Tryz.prog W .any base t v := hval0
  have hW' := hW
  obtain ⟨p, q, hA0, hV, rfl, hfz, hnd⟩ := hW
  have hA : DataW.TrodAll enc Tryz.prog W 0 (fun _ => true) true Tryz.f6.params.toList args.toList ds p := hA0
  rw [Tryz.params6] at hA hval
  obtain ⟨v0, vs0, d0, ds0, p0, q0, hargs, rfl, rfl, h0, r0⟩ := trodAll_cons hA
  obtain ⟨v1, vs1, d1, ds1, p1, q1, rfl, rfl, rfl, h1, r1⟩ := trodAll_cons r0
  obtain ⟨rfl, rfl, rfl⟩ := trodAll_nil r1
  obtain rfl : args = #[v0, v1] := by cases args; simp_all
  obtain ⟨rfl, rfl⟩ := trodVars_none hV
  obtain ⟨a0, rfl, rfl, rfl, w0⟩ := open_int Tryz.underlying41 (hval 0 41 v0 rfl rfl) h0
  obtain ⟨a1, rfl, rfl, rfl, w1⟩ := open_int Tryz.underlying41 (hval 1 41 v1 rfl rfl) h1
  clear hA0 hval0
  refine (walk a0 a1 W w0 w1).mono fun e W' ⟨he, bel⟩ => ?_
  subst he
  exact ⟨_, rfl, _, _, _, [], _, [], hW', trodAll_mk1 (shut_bool Tryz.underlying4 _), (trodAll_cons_mk (shut_int Tryz.underlying41 w0) (trodAll_cons_mk (shut_int Tryz.underlying41 w1) trodAll_mk0)), rfl, bel.frame _, fun h => by cases h⟩

theorem over : Rows.loopSmoothRow.holds Tryz.pinned (OpenSpec.ofChange Rows.loopSmoothSpec) :=
  OpenClaim.holds_of_wide 6 Tryz.f6 rfl rfl rfl rfl rfl rfl rfl ⟨rfl, rfl, rfl, rfl, rfl⟩ rfl rfl rfl rfl rfl (by kernel_rfl) Tryz.func6 (by kernel_rfl)
    (of_decide_eq_true (by kernel_rfl)) (by unfold Func.isWrapper; first | (rw [if_pos (by decide +kernel)]; kernel_rfl) | (rw [if_neg (by decide +kernel)]; exact ⟨rfl, rfl⟩))
    (fun os started H enc _ => lifted os started H enc)

theorem proved : Rows.LoopSmoothSaid := over
end Go.Proofs.YtlidlmgmijndcaaGreat.LoopSmooth
