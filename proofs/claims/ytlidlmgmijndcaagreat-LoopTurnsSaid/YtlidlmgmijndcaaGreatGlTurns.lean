/- LoopTurns: what is near turns the frequency the way it points, if it comes soon; nought turns nothing. No further condition. (Written by wip/genLp.py.) -/
import Derived.Test.YtlidlmgmijndcaaGreatLpZ
import Derived.Test.YtlidlmgmijndcaaGreatLpB
import Derived.WalkKit
import Derived.WalkSpells
import Derived.WalkLawsBesides
import Derived.Lib.Hide
import Derived.Handy
import Derived.ProofKit
import Derived.OpenShut
import Derived.ShutString
import Derived.ChangeOld
import Derived.Below
namespace Go.Proofs.YtlidlmgmijndcaaGreat.LoopTurns
open Go.RowKit Go.Sort Go.Proofs.YtlidlmgmijndcaaGreat.W
open Go.ChangeShapes Go.WideShapes Go.ChangeAt
open Go.ChangeMaps (open_string shut_string)
set_option linter.unusedVariables false
set_option linter.unusedSimpArgs false
theorem own : ownKnob Tryz.prog.godebug = none := by kernel_rfl
theorem laidOut : laidOutB Tryz.prog = true := by kernel_rfl
set_option maxRecDepth 100000 in
set_option maxHeartbeats 12800000 in
theorem walk (o gone n : Int) (w : World) (wo : (Lit.int .i32 o).wf = true) (wg : (Lit.int .u16 gone).wf = true) (wn : (Lit.int .u8 n).wf = true) :
    Calls Tryz.prog 8 #[.int .i32 o, .int .u16 gone, .int .u8 n] w fun e w' => e = .returned (.bool true) ∧ Below w.heap.size w w' := by
  have o0 : -2147483648 ≤ o ∧ o ≤ 2147483647 := by have := bounds_i32 wo; omega
  have g0 := u16_bounds wg
  have n0 := u8_bounds wn
  clear wo wg wn
  have cs := shown19_any
  have c1 := std19_any
  have H := std_params
  generalize chkP stdC = p at *
  obtain ⟨gn, rfl⟩ : ∃ gn : Nat, gone = (gn : Int) := ⟨gone.toNat, by omega⟩
  obtain ⟨r, hr⟩ : ∃ r, gn % 2048 = r := ⟨_, rfl⟩
  have hrem : Int.tmod (gn : Int) 2048 = (r : Int) := by rw [← hr]; rfl
  have v0 : IntKind.u16.wrap (r : Int) = (r : Int) := by rw [IntKind.wrap_u16]; omega
  have v1 : IntKind.i64.wrap o = o := IntWalk.i64_in _ (by omega)
  have v2 : IntKind.i64.wrap (r : Int) = (r : Int) := IntWalk.i64_in _ (by omega)
  have v3 : IntKind.i64.wrap ((r : Int) * 4294967296) = (r : Int) * 4294967296 := IntWalk.i64_in _ (by omega)
  have v4 : IntKind.i64.wrap n = n := IntWalk.i64_in _ (by omega)
  have td : Dc.Typed ⟨4, 0, 0, 0, 0, 0, 0⟩ := ⟨by decide, by decide, by decide, by decide, by decide, by decide, by decide⟩
  have c2 := lpturn_any p H.typed ⟨4, 0, 0, 0, 0, 0, 0⟩ td o ((r : Int) * 4294967296) n (by omega) (by omega) (by omega)
  have c3 := lpturn_any p H.typed ⟨4, 0, 0, 0, 0, 0, 0⟩ td o 0 n (by omega) (by omega) (by omega)
  rw [turn_none] at c3
  obtain ⟨s1, s2⟩ := turn_sign p ⟨4, 0, 0, 0, 0, 0, 0⟩ (o := o) (gone := (r : Int) * 4294967296) n (by omega) (by omega)
  generalize turnL p ⟨4, 0, 0, 0, 0, 0, 0⟩ o ((r : Int) * 4294967296) n = f at *
  unfold Pm.val Dc.val at *
  dsimp only at *
  clear H td hr
  rcases Int.lt_trichotomy o 0 with h | rfl | h
  · have t1 : decide (o < 0) = true := decide_eq_true h
    have t2 : decide (0 < o) = false := decide_eq_false (by omega)
    have t3 : decide (f ≤ 0) = true := decide_eq_true (s2 (by omega))
    have t4 : (o != 0) = true := bne_iff_ne.2 (by omega)
    clear s1 s2 h
    go_enter Tryz.func8, Tryz.ntmps8
    go_wp2_with fail
    (with_reducible refine (c1 _).mono ?_)
    rintro e w1 ⟨rfl, B1⟩
    have B2 := (B1.alloc B1.size (.cells #[.int .i64 p.step, .int .i64 p.watch, .int .i64 p.panic, .int .i64 p.maxrate, .int .i64 p.phi, .int .i64 p.maxdist, .int .i64 p.gate, .int .i64 p.minpoll, .int .i64 p.maxpoll, .int .i64 p.burst, .int .i64 p.minsane, .int .i64 p.minleft] 25)).alloc (by simp; have := B1.size; omega) (.cells #[.int .i64 4, .int .i64 0, .int .i64 0, .int .i64 0, .int .i64 0, .int .i64 0, .int .i64 0] 28)
    have zp := laid (.cells #[.int .i64 4, .int .i64 0, .int .i64 0, .int .i64 0, .int .i64 0, .int .i64 0, .int .i64 0] 28) (heap_alloc_new w1 (.cells #[.int .i64 p.step, .int .i64 p.watch, .int .i64 p.panic, .int .i64 p.maxrate, .int .i64 p.phi, .int .i64 p.maxdist, .int .i64 p.gate, .int .i64 p.minpoll, .int .i64 p.maxpoll, .int .i64 p.burst, .int .i64 p.minsane, .int .i64 p.minleft] 25))
    have zd := heap_alloc_new (w1.alloc (.cells #[.int .i64 p.step, .int .i64 p.watch, .int .i64 p.panic, .int .i64 p.maxrate, .int .i64 p.phi, .int .i64 p.maxdist, .int .i64 p.gate, .int .i64 p.minpoll, .int .i64 p.maxpoll, .int .i64 p.burst, .int .i64 p.minsane, .int .i64 p.minleft] 25)) (.cells #[.int .i64 4, .int .i64 0, .int .i64 0, .int .i64 0, .int .i64 0, .int .i64 0, .int .i64 0] 28)
    rw [World.size_alloc] at zd
    clear B1
    go_upto_region 3 with fail
    generalize (w1.alloc (.cells #[.int .i64 p.step, .int .i64 p.watch, .int .i64 p.panic, .int .i64 p.maxrate, .int .i64 p.phi, .int .i64 p.maxdist, .int .i64 p.gate, .int .i64 p.minpoll, .int .i64 p.maxpoll, .int .i64 p.burst, .int .i64 p.minsane, .int .i64 p.minleft] 25)).alloc (.cells #[.int .i64 4, .int .i64 0, .int .i64 0, .int .i64 0, .int .i64 0, .int .i64 0, .int .i64 0] 28) = w2 at *
    generalize w1.heap.size = bp at *
    obtain ⟨a0, a1, a2, a3, a4, a5, a6, a7, a8, a9, a10, a11⟩ := twelve_atK zp
    obtain ⟨s0, s1, s2, s3, s4, s5, s6⟩ := seven_in19 zd
    have ZZ := Lib.hid (And.intro zp zd)
    clear zp zd
    go_wp2_with fail
    (with_reducible refine (c2 _).mono ?_)
    rintro e w3 ⟨rfl, hw⟩
    have B3 := B2.trans (hw.mono B2.size)
    have zp := kept ZZ.out.1 hw
    have zd := kept ZZ.out.2 hw
    clear a0 a1 a2 a3 a4 a5 a6 a7 a8 a9 a10 a11 s0 s1 s2 s3 s4 s5 s6 hw B2 ZZ
    obtain ⟨a0, a1, a2, a3, a4, a5, a6, a7, a8, a9, a10, a11⟩ := twelve_atK zp
    obtain ⟨s0, s1, s2, s3, s4, s5, s6⟩ := seven_in19 zd
    clear zp zd
    go_wp2_with fail
    (with_reducible refine (c3 _).mono ?_)
    rintro e w4 ⟨rfl, hw⟩
    have B4 := B3.trans (hw.mono B3.size)
    clear a0 a1 a2 a3 a4 a5 a6 a7 a8 a9 a10 a11 s0 s1 s2 s3 s4 s5 s6 hw B3
    go_wp2_with fail
    (with_reducible refine (cs _).mono ?_)
    rintro e w5 ⟨rfl, hw⟩
    have B5 := B4.trans (hw.mono B4.size)
    clear hw B4
    go_wp2_with fail
    go_ret
    exact ⟨by first | rfl | (simp; done), B5⟩
  · have hf : f = 0 := by have := s1 (by omega); have := s2 (by omega); omega
    subst hf
    clear s1 s2
    go_enter Tryz.func8, Tryz.ntmps8
    go_wp2_with fail
    (with_reducible refine (c1 _).mono ?_)
    rintro e w1 ⟨rfl, B1⟩
    have B2 := (B1.alloc B1.size (.cells #[.int .i64 p.step, .int .i64 p.watch, .int .i64 p.panic, .int .i64 p.maxrate, .int .i64 p.phi, .int .i64 p.maxdist, .int .i64 p.gate, .int .i64 p.minpoll, .int .i64 p.maxpoll, .int .i64 p.burst, .int .i64 p.minsane, .int .i64 p.minleft] 25)).alloc (by simp; have := B1.size; omega) (.cells #[.int .i64 4, .int .i64 0, .int .i64 0, .int .i64 0, .int .i64 0, .int .i64 0, .int .i64 0] 28)
    have zp := laid (.cells #[.int .i64 4, .int .i64 0, .int .i64 0, .int .i64 0, .int .i64 0, .int .i64 0, .int .i64 0] 28) (heap_alloc_new w1 (.cells #[.int .i64 p.step, .int .i64 p.watch, .int .i64 p.panic, .int .i64 p.maxrate, .int .i64 p.phi, .int .i64 p.maxdist, .int .i64 p.gate, .int .i64 p.minpoll, .int .i64 p.maxpoll, .int .i64 p.burst, .int .i64 p.minsane, .int .i64 p.minleft] 25))
    have zd := heap_alloc_new (w1.alloc (.cells #[.int .i64 p.step, .int .i64 p.watch, .int .i64 p.panic, .int .i64 p.maxrate, .int .i64 p.phi, .int .i64 p.maxdist, .int .i64 p.gate, .int .i64 p.minpoll, .int .i64 p.maxpoll, .int .i64 p.burst, .int .i64 p.minsane, .int .i64 p.minleft] 25)) (.cells #[.int .i64 4, .int .i64 0, .int .i64 0, .int .i64 0, .int .i64 0, .int .i64 0, .int .i64 0] 28)
    rw [World.size_alloc] at zd
    clear B1
    go_upto_region 3 with fail
    generalize (w1.alloc (.cells #[.int .i64 p.step, .int .i64 p.watch, .int .i64 p.panic, .int .i64 p.maxrate, .int .i64 p.phi, .int .i64 p.maxdist, .int .i64 p.gate, .int .i64 p.minpoll, .int .i64 p.maxpoll, .int .i64 p.burst, .int .i64 p.minsane, .int .i64 p.minleft] 25)).alloc (.cells #[.int .i64 4, .int .i64 0, .int .i64 0, .int .i64 0, .int .i64 0, .int .i64 0, .int .i64 0] 28) = w2 at *
    generalize w1.heap.size = bp at *
    obtain ⟨a0, a1, a2, a3, a4, a5, a6, a7, a8, a9, a10, a11⟩ := twelve_atK zp
    obtain ⟨s0, s1, s2, s3, s4, s5, s6⟩ := seven_in19 zd
    have ZZ := Lib.hid (And.intro zp zd)
    clear zp zd
    go_wp2_with fail
    (with_reducible refine (c2 _).mono ?_)
    rintro e w3 ⟨rfl, hw⟩
    have B3 := B2.trans (hw.mono B2.size)
    have zp := kept ZZ.out.1 hw
    have zd := kept ZZ.out.2 hw
    clear a0 a1 a2 a3 a4 a5 a6 a7 a8 a9 a10 a11 s0 s1 s2 s3 s4 s5 s6 hw B2 ZZ
    obtain ⟨a0, a1, a2, a3, a4, a5, a6, a7, a8, a9, a10, a11⟩ := twelve_atK zp
    obtain ⟨s0, s1, s2, s3, s4, s5, s6⟩ := seven_in19 zd
    clear zp zd
    go_wp2_with fail
    (with_reducible refine (c3 _).mono ?_)
    rintro e w4 ⟨rfl, hw⟩
    have B4 := B3.trans (hw.mono B3.size)
    clear a0 a1 a2 a3 a4 a5 a6 a7 a8 a9 a10 a11 s0 s1 s2 s3 s4 s5 s6 hw B3
    go_wp2_with fail
    (with_reducible refine (cs _).mono ?_)
    rintro e w5 ⟨rfl, hw⟩
    have B5 := B4.trans (hw.mono B4.size)
    clear hw B4
    go_wp2_with fail
    go_ret
    exact ⟨by first | rfl | (simp; done), B5⟩
  · have t1 : decide (o < 0) = false := decide_eq_false (by omega)
    have t2 : decide (0 < o) = true := decide_eq_true h
    have t3 : decide (0 ≤ f) = true := decide_eq_true (s1 (by omega))
    have t4 : (o != 0) = true := bne_iff_ne.2 (by omega)
    clear s1 s2 h
    go_enter Tryz.func8, Tryz.ntmps8
    go_wp2_with fail
    (with_reducible refine (c1 _).mono ?_)
    rintro e w1 ⟨rfl, B1⟩
    have B2 := (B1.alloc B1.size (.cells #[.int .i64 p.step, .int .i64 p.watch, .int .i64 p.panic, .int .i64 p.maxrate, .int .i64 p.phi, .int .i64 p.maxdist, .int .i64 p.gate, .int .i64 p.minpoll, .int .i64 p.maxpoll, .int .i64 p.burst, .int .i64 p.minsane, .int .i64 p.minleft] 25)).alloc (by simp; have := B1.size; omega) (.cells #[.int .i64 4, .int .i64 0, .int .i64 0, .int .i64 0, .int .i64 0, .int .i64 0, .int .i64 0] 28)
    have zp := laid (.cells #[.int .i64 4, .int .i64 0, .int .i64 0, .int .i64 0, .int .i64 0, .int .i64 0, .int .i64 0] 28) (heap_alloc_new w1 (.cells #[.int .i64 p.step, .int .i64 p.watch, .int .i64 p.panic, .int .i64 p.maxrate, .int .i64 p.phi, .int .i64 p.maxdist, .int .i64 p.gate, .int .i64 p.minpoll, .int .i64 p.maxpoll, .int .i64 p.burst, .int .i64 p.minsane, .int .i64 p.minleft] 25))
    have zd := heap_alloc_new (w1.alloc (.cells #[.int .i64 p.step, .int .i64 p.watch, .int .i64 p.panic, .int .i64 p.maxrate, .int .i64 p.phi, .int .i64 p.maxdist, .int .i64 p.gate, .int .i64 p.minpoll, .int .i64 p.maxpoll, .int .i64 p.burst, .int .i64 p.minsane, .int .i64 p.minleft] 25)) (.cells #[.int .i64 4, .int .i64 0, .int .i64 0, .int .i64 0, .int .i64 0, .int .i64 0, .int .i64 0] 28)
    rw [World.size_alloc] at zd
    clear B1
    go_upto_region 3 with fail
    generalize (w1.alloc (.cells #[.int .i64 p.step, .int .i64 p.watch, .int .i64 p.panic, .int .i64 p.maxrate, .int .i64 p.phi, .int .i64 p.maxdist, .int .i64 p.gate, .int .i64 p.minpoll, .int .i64 p.maxpoll, .int .i64 p.burst, .int .i64 p.minsane, .int .i64 p.minleft] 25)).alloc (.cells #[.int .i64 4, .int .i64 0, .int .i64 0, .int .i64 0, .int .i64 0, .int .i64 0, .int .i64 0] 28) = w2 at *
    generalize w1.heap.size = bp at *
    obtain ⟨a0, a1, a2, a3, a4, a5, a6, a7, a8, a9, a10, a11⟩ := twelve_atK zp
    obtain ⟨s0, s1, s2, s3, s4, s5, s6⟩ := seven_in19 zd
    have ZZ := Lib.hid (And.intro zp zd)
    clear zp zd
    go_wp2_with fail
    (with_reducible refine (c2 _).mono ?_)
    rintro e w3 ⟨rfl, hw⟩
    have B3 := B2.trans (hw.mono B2.size)
    have zp := kept ZZ.out.1 hw
    have zd := kept ZZ.out.2 hw
    clear a0 a1 a2 a3 a4 a5 a6 a7 a8 a9 a10 a11 s0 s1 s2 s3 s4 s5 s6 hw B2 ZZ
    obtain ⟨a0, a1, a2, a3, a4, a5, a6, a7, a8, a9, a10, a11⟩ := twelve_atK zp
    obtain ⟨s0, s1, s2, s3, s4, s5, s6⟩ := seven_in19 zd
    clear zp zd
    go_wp2_with fail
    (with_reducible refine (c3 _).mono ?_)
    rintro e w4 ⟨rfl, hw⟩
    have B4 := B3.trans (hw.mono B3.size)
    clear a0 a1 a2 a3 a4 a5 a6 a7 a8 a9 a10 a11 s0 s1 s2 s3 s4 s5 s6 hw B3
    go_wp2_with fail
    (with_reducible refine (cs _).mono ?_)
    rintro e w5 ⟨rfl, hw⟩
    have B5 := B4.trans (hw.mono B4.size)
    clear hw B4
    go_wp2_with fail
    go_ret
    exact ⟨by first | rfl | (simp; done), B5⟩
set_option maxRecDepth 100000 in
theorem lifted (os : Os) (started : os.Started) (H : Type) (enc : TypeId × Value → H) :
    ReturnsInHanded {} Tryz.checked os 8 .any (Rows.loopTurnsSpec.pre6 enc Tryz.prog Tryz.f8 Rows.loopTurnsRow.domain false) (Rows.loopTurnsSpec.post enc Tryz.prog Tryz.f8 false true false false) := by
  refine returnsInHanded_of_change (C := Tryz.checked) own started (by kernel_rfl) Tryz.func8
    (ChangeSpec.witness6 (enc := enc) (C := Tryz.checked) false ⟨#[], #[.int .i32 0, .int .u16 0, .int .u8 0], []⟩ 8 (by kernel_rfl) (by kernel_rfl) (by kernel_rfl) (by kernel_rfl)) ?_
  intro W base args ds gs before hval0 hW hcnd _
  have hval : ∀ (j : Nat) t v, Tryz.f8.params[j]? = some t → args[j]? = some v → Value.okWide Tryz.prog W .any base t v := hval0
  have hW' := hW
  obtain ⟨p, q, hA0, hV, rfl, hfz, hnd⟩ := hW
  have hA : DataW.TrodAll enc Tryz.prog W 0 (fun _ => true) true Tryz.f8.params.toList args.toList ds p := hA0
  rw [Tryz.params8] at hA hval
  obtain ⟨v0, vs0, d0, ds0, p0, q0, hargs, rfl, rfl, h0, r0⟩ := trodAll_cons hA
  obtain ⟨v1, vs1, d1, ds1, p1, q1, rfl, rfl, rfl, h1, r1⟩ := trodAll_cons r0
  obtain ⟨v2, vs2, d2, ds2, p2, q2, rfl, rfl, rfl, h2, r2⟩ := trodAll_cons r1
  obtain ⟨rfl, rfl, rfl⟩ := trodAll_nil r2
  obtain rfl : args = #[v0, v1, v2] := by cases args; simp_all
  obtain ⟨rfl, rfl⟩ := trodVars_none hV
  obtain ⟨a0, rfl, rfl, rfl, w0⟩ := open_int Tryz.underlying21 (hval 0 21 v0 rfl rfl) h0
  obtain ⟨a1, rfl, rfl, rfl, w1⟩ := open_int Tryz.underlying30 (hval 1 30 v1 rfl rfl) h1
  obtain ⟨a2, rfl, rfl, rfl, w2⟩ := open_int Tryz.underlying5 (hval 2 5 v2 rfl rfl) h2
  clear hA0 hval0
  refine (walk a0 a1 a2 W w0 w1 w2).mono fun e W' ⟨he, bel⟩ => ?_
  subst he
  exact ⟨_, rfl, _, _, _, [], _, [], hW', trodAll_mk1 (shut_bool Tryz.underlying4 _), (trodAll_cons_mk (shut_int Tryz.underlying21 w0) (trodAll_cons_mk (shut_int Tryz.underlying30 w1) (trodAll_cons_mk (shut_int Tryz.underlying5 w2) trodAll_mk0))), rfl, bel.frame _, fun h => by cases h⟩

theorem over : Rows.loopTurnsRow.holds Tryz.pinned (OpenSpec.ofChange Rows.loopTurnsSpec) :=
  OpenClaim.holds_of_wide 8 Tryz.f8 rfl rfl rfl rfl rfl rfl rfl ⟨rfl, rfl, rfl, rfl, rfl⟩ rfl rfl rfl rfl rfl (by kernel_rfl) Tryz.func8 (by kernel_rfl)
    (of_decide_eq_true (by kernel_rfl)) (by unfold Func.isWrapper; first | (rw [if_pos (by decide +kernel)]; kernel_rfl) | (rw [if_neg (by decide +kernel)]; exact ⟨rfl, rfl⟩))
    (fun os started H enc _ => lifted os started H enc)

theorem proved : Rows.LoopTurnsSaid := over
end Go.Proofs.YtlidlmgmijndcaaGreat.LoopTurns
