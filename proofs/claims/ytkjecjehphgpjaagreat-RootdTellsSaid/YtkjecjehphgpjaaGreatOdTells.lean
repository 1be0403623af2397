/- RootdTells: how far any server is, its span, its metric, and whether it is fit, whatever is set, is the document's. No condition. (Written by wip/genOd.py.) -/
import Derived.Test.YtkjecjehphgpjaaGreatRtT
import Derived.Test.YtkjecjehphgpjaaGreatCkY
import Derived.Test.YtkjecjehphgpjaaGreatRtY
import Derived.Test.YtkjecjehphgpjaaGreatRtZ
import Derived.Test.YtkjecjehphgpjaaGreatFixD
import Derived.Test.YtkjecjehphgpjaaGreatWideA
import Derived.Test.YtkjecjehphgpjaaGreatSlA
import Derived.OpenShut
import Derived.ChangeOld
import Derived.Lib.Hide
import Derived.OneCell
import Derived.Lib.Zigzag
import Derived.WalkKit
import Derived.WalkSpells
import Derived.WalkLawsBesides
import Derived.Handy
import Derived.ProofKit
import Derived.ShutString
import Derived.Below
namespace Go.Proofs.YtkjecjehphgpjaaGreat.RootdTells
open Go.Proofs.YtkjecjehphgpjaaGreat.W
open Go.ChangeShapes Go.WideShapes Go.ChangeAt Go.RowKit
open Go.ChangeMaps (open_string shut_string)
set_option linter.unusedVariables false
theorem own : ownKnob Tryz.prog.godebug = none := by kernel_rfl
theorem laidOut : laidOutB Tryz.prog = true := by kernel_rfl
open Go.Sort
set_option linter.unusedSimpArgs false
set_option maxRecDepth 100000 in
set_option maxHeartbeats 25600000 in
theorem walk (p : Pm) (s : Sv) (own poll at_ : Int) (w : World) (tp : p.Typed) (ts : s.Typed) (wo : (Lit.int .u32 own).wf = true) (wp : (Lit.int .i64 poll).wf = true) (wa : (Lit.int .i64 at_).wf = true) :
    Calls Tryz.prog 3 #[p.val, s.val, .int .u32 own, .int .i64 poll, .int .i64 at_] w fun e w' => e = .returned (.bool true) ∧ Below w.heap.size w w' := by
  have bo := bounds_u32 wo
  have bp := bounds_i64 wp
  have ba := bounds_i64 wa
  clear wo wp wa
  have c4 := shown15_any
  have ct := theirs15_any s
  have e1 := tdist_any p tp s ts at_ (by omega)
  have e2 := rdist15_any p tp s ts at_ (by omega)
  have e3 := tspan_any p tp s ts at_ (by omega)
  have e4 := rspan15_any p tp s ts at_ (by omega)
  have e5 := tfit_any p tp s ts own poll at_ (by omega) (by omega) (by omega)
  have e6 := rfit15_any p tp s ts own poll at_ (by omega) (by omega) (by omega)
  have e7 := tmet_any p tp s ts at_ (by omega)
  have e8 := rmet15_any p tp s ts at_ (by omega)
  generalize distI p s at_ = D at *
  generalize lowI p s at_ = L at *
  generalize highI p s at_ = G at *
  generalize fitE p s own poll at_ = E at *
  generalize metI p s at_ = M at *
  have B := ((Below.refl w.heap.size w).alloc (Nat.le_refl _) (.cells #[.int .i64 p.step, .int .i64 p.watch, .int .i64 p.panic, .int .i64 p.maxrate, .int .i64 p.phi, .int .i64 p.maxdist, .int .i64 p.gate, .int .i64 p.minpoll, .int .i64 p.maxpoll, .int .i64 p.burst, .int .i64 p.minsane, .int .i64 p.minleft] 23)).alloc (by simp) (.cells #[.int .i64 s.leap, .int .i64 s.str, .int .u32 s.ref, .int .i64 s.del, .int .i64 s.disp, .int .i64 s.t.off, .int .i64 s.t.del, .int .i64 s.t.disp, .int .i64 s.t.jit, .int .i64 s.t.at_, .int .u8 s.reg] 28)
  have hp : ((w.alloc (.cells #[.int .i64 p.step, .int .i64 p.watch, .int .i64 p.panic, .int .i64 p.maxrate, .int .i64 p.phi, .int .i64 p.maxdist, .int .i64 p.gate, .int .i64 p.minpoll, .int .i64 p.maxpoll, .int .i64 p.burst, .int .i64 p.minsane, .int .i64 p.minleft] 23)).alloc (.cells #[.int .i64 s.leap, .int .i64 s.str, .int .u32 s.ref, .int .i64 s.del, .int .i64 s.disp, .int .i64 s.t.off, .int .i64 s.t.del, .int .i64 s.t.disp, .int .i64 s.t.jit, .int .i64 s.t.at_, .int .u8 s.reg] 28)).heap[w.heap.size]? = some (.cells #[.int .i64 p.step, .int .i64 p.watch, .int .i64 p.panic, .int .i64 p.maxrate, .int .i64 p.phi, .int .i64 p.maxdist, .int .i64 p.gate, .int .i64 p.minpoll, .int .i64 p.maxpoll, .int .i64 p.burst, .int .i64 p.minsane, .int .i64 p.minleft] 23 (0, 0)) := laid _ (heap_alloc_new w _)
  have hs : ((w.alloc (.cells #[.int .i64 p.step, .int .i64 p.watch, .int .i64 p.panic, .int .i64 p.maxrate, .int .i64 p.phi, .int .i64 p.maxdist, .int .i64 p.gate, .int .i64 p.minpoll, .int .i64 p.maxpoll, .int .i64 p.burst, .int .i64 p.minsane, .int .i64 p.minleft] 23)).alloc (.cells #[.int .i64 s.leap, .int .i64 s.str, .int .u32 s.ref, .int .i64 s.del, .int .i64 s.disp, .int .i64 s.t.off, .int .i64 s.t.del, .int .i64 s.t.disp, .int .i64 s.t.jit, .int .i64 s.t.at_, .int .u8 s.reg] 28)).heap[w.heap.size + 1]? = some (.cells #[.int .i64 s.leap, .int .i64 s.str, .int .u32 s.ref, .int .i64 s.del, .int .i64 s.disp, .int .i64 s.t.off, .int .i64 s.t.del, .int .i64 s.t.disp, .int .i64 s.t.jit, .int .i64 s.t.at_, .int .u8 s.reg] 28 (0, 0)) := by
    have := heap_alloc_new (w.alloc (.cells #[.int .i64 p.step, .int .i64 p.watch, .int .i64 p.panic, .int .i64 p.maxrate, .int .i64 p.phi, .int .i64 p.maxdist, .int .i64 p.gate, .int .i64 p.minpoll, .int .i64 p.maxpoll, .int .i64 p.burst, .int .i64 p.minsane, .int .i64 p.minleft] 23)) (.cells #[.int .i64 s.leap, .int .i64 s.str, .int .u32 s.ref, .int .i64 s.del, .int .i64 s.disp, .int .i64 s.t.off, .int .i64 s.t.del, .int .i64 s.t.disp, .int .i64 s.t.jit, .int .i64 s.t.at_, .int .u8 s.reg] 28)
    simpa [World.size_alloc] using this
  unfold Pm.val Sv.val at *
  clear tp ts
  go_enter Tryz.func3, Tryz.ntmps3
  go_upto_region 1 with fail
  generalize ((w.alloc (.cells #[.int .i64 p.step, .int .i64 p.watch, .int .i64 p.panic, .int .i64 p.maxrate, .int .i64 p.phi, .int .i64 p.maxdist, .int .i64 p.gate, .int .i64 p.minpoll, .int .i64 p.maxpoll, .int .i64 p.burst, .int .i64 p.minsane, .int .i64 p.minleft] 23)).alloc (.cells #[.int .i64 s.leap, .int .i64 s.str, .int .u32 s.ref, .int .i64 s.del, .int .i64 s.disp, .int .i64 s.t.off, .int .i64 s.t.del, .int .i64 s.t.disp, .int .i64 s.t.jit, .int .i64 s.t.at_, .int .u8 s.reg] 28)) = w0 at *
  have hp0 := hp
  have lw_hq : w0.heap.size < (w0.alloc (.cells #[.int .i64 p.step, .int .i64 p.watch, .int .i64 p.panic, .int .i64 p.maxrate, .int .i64 p.phi, .int .i64 p.maxdist, .int .i64 p.gate, .int .i64 p.minpoll, .int .i64 p.maxpoll, .int .i64 p.burst, .int .i64 p.minsane, .int .i64 p.minleft] 29)).heap.size := by simp
  replace hp := laid (.cells #[.int .i64 p.step, .int .i64 p.watch, .int .i64 p.panic, .int .i64 p.maxrate, .int .i64 p.phi, .int .i64 p.maxdist, .int .i64 p.gate, .int .i64 p.minpoll, .int .i64 p.maxpoll, .int .i64 p.burst, .int .i64 p.minsane, .int .i64 p.minleft] 29) hp
  replace hs := laid (.cells #[.int .i64 p.step, .int .i64 p.watch, .int .i64 p.panic, .int .i64 p.maxrate, .int .i64 p.phi, .int .i64 p.maxdist, .int .i64 p.gate, .int .i64 p.minpoll, .int .i64 p.maxpoll, .int .i64 p.burst, .int .i64 p.minsane, .int .i64 p.minleft] 29) hs
  have hq := heap_alloc_new w0 (.cells #[.int .i64 p.step, .int .i64 p.watch, .int .i64 p.panic, .int .i64 p.maxrate, .int .i64 p.phi, .int .i64 p.maxdist, .int .i64 p.gate, .int .i64 p.minpoll, .int .i64 p.maxpoll, .int .i64 p.burst, .int .i64 p.minsane, .int .i64 p.minleft] 29)
  replace B := B.alloc B.size (.cells #[.int .i64 p.step, .int .i64 p.watch, .int .i64 p.panic, .int .i64 p.maxrate, .int .i64 p.phi, .int .i64 p.maxdist, .int .i64 p.gate, .int .i64 p.minpoll, .int .i64 p.maxpoll, .int .i64 p.burst, .int .i64 p.minsane, .int .i64 p.minleft] 29)
  go_upto_region 2 with (refine at_load_pm10 rfl _ rfl _ rfl hp0 rfl ?_)
  clear hp0
  generalize w0.alloc (.cells #[.int .i64 p.step, .int .i64 p.watch, .int .i64 p.panic, .int .i64 p.maxrate, .int .i64 p.phi, .int .i64 p.maxdist, .int .i64 p.gate, .int .i64 p.minpoll, .int .i64 p.maxpoll, .int .i64 p.burst, .int .i64 p.minsane, .int .i64 p.minleft] 29) = w1 at *
  go_wp2_with (first | (refine at_load_pm10 rfl _ rfl _ rfl hp rfl ?_) | (refine at_load_sv15 rfl _ rfl _ rfl hs rfl ?_))
  (with_reducible refine (ct _).mono ?_)
  rintro e w2 ⟨rfl, hw⟩
  replace hp := kept hp hw
  replace hs := kept hs hw
  replace hq := kept hq hw
  replace B := B.trans (hw.mono B.size)
  clear hw
  have lw_ht : w2.heap.size < (w2.alloc (.cells #[.int .i64 s.leap, .int .i64 s.str, .int .u32 s.ref, .int .i64 s.del, .int .i64 s.disp, .int .i64 s.t.off, .int .i64 s.t.del, .int .i64 s.t.disp, .int .i64 s.t.jit, .int .i64 s.t.at_, .int .u8 s.reg] 32)).heap.size := by simp
  replace hp := laid (.cells #[.int .i64 s.leap, .int .i64 s.str, .int .u32 s.ref, .int .i64 s.del, .int .i64 s.disp, .int .i64 s.t.off, .int .i64 s.t.del, .int .i64 s.t.disp, .int .i64 s.t.jit, .int .i64 s.t.at_, .int .u8 s.reg] 32) hp
  replace hs := laid (.cells #[.int .i64 s.leap, .int .i64 s.str, .int .u32 s.ref, .int .i64 s.del, .int .i64 s.disp, .int .i64 s.t.off, .int .i64 s.t.del, .int .i64 s.t.disp, .int .i64 s.t.jit, .int .i64 s.t.at_, .int .u8 s.reg] 32) hs
  replace hq := laid (.cells #[.int .i64 s.leap, .int .i64 s.str, .int .u32 s.ref, .int .i64 s.del, .int .i64 s.disp, .int .i64 s.t.off, .int .i64 s.t.del, .int .i64 s.t.disp, .int .i64 s.t.jit, .int .i64 s.t.at_, .int .u8 s.reg] 32) hq
  have ht := heap_alloc_new w2 (.cells #[.int .i64 s.leap, .int .i64 s.str, .int .u32 s.ref, .int .i64 s.del, .int .i64 s.disp, .int .i64 s.t.off, .int .i64 s.t.del, .int .i64 s.t.disp, .int .i64 s.t.jit, .int .i64 s.t.at_, .int .u8 s.reg] 32)
  replace B := B.alloc B.size (.cells #[.int .i64 s.leap, .int .i64 s.str, .int .u32 s.ref, .int .i64 s.del, .int .i64 s.disp, .int .i64 s.t.off, .int .i64 s.t.del, .int .i64 s.t.disp, .int .i64 s.t.jit, .int .i64 s.t.at_, .int .u8 s.reg] 32)
  go_upto_region 3 with fail
  generalize w2.alloc (.cells #[.int .i64 s.leap, .int .i64 s.str, .int .u32 s.ref, .int .i64 s.del, .int .i64 s.disp, .int .i64 s.t.off, .int .i64 s.t.del, .int .i64 s.t.disp, .int .i64 s.t.jit, .int .i64 s.t.at_, .int .u8 s.reg] 32) = w3 at *
  obtain ⟨p0, p1, p2, p3, p4, p5, p6, p7, p8, p9, p10, p11⟩ := twelve_atK hp
  have kp0 := cell_regrown p0
  have kp1 := cell_regrown p1
  have kp2 := cell_regrown p2
  have kp3 := cell_regrown p3
  have kp4 := cell_regrown p4
  have kp5 := cell_regrown p5
  have kp6 := cell_regrown p6
  have kp7 := cell_regrown p7
  have kp8 := cell_regrown p8
  have kp9 := cell_regrown p9
  have kp10 := cell_regrown p10
  have kp11 := cell_regrown p11
  clear p0 p1 p2 p3 p4 p5 p6 p7 p8 p9 p10 p11 hp
  obtain ⟨s0, s1, s2, s3, s4, s5, s6, s7, s8, s9, s10⟩ := eleven_in hs
  have ks0 := cell_regrown s0
  have ks1 := cell_regrown s1
  have ks2 := cell_regrown s2
  have ks3 := cell_regrown s3
  have ks4 := cell_regrown s4
  have ks5 := cell_regrown s5
  have ks6 := cell_regrown s6
  have ks7 := cell_regrown s7
  have ks8 := cell_regrown s8
  have ks9 := cell_regrown s9
  have ks10 := cell_regrown s10
  clear s0 s1 s2 s3 s4 s5 s6 s7 s8 s9 s10 hs
  obtain ⟨q0, q1, q2, q3, q4, q5, q6, q7, q8, q9, q10, q11⟩ := twelve_atK hq
  have kq0 := cell_regrown q0
  have kq1 := cell_regrown q1
  have kq2 := cell_regrown q2
  have kq3 := cell_regrown q3
  have kq4 := cell_regrown q4
  have kq5 := cell_regrown q5
  have kq6 := cell_regrown q6
  have kq7 := cell_regrown q7
  have kq8 := cell_regrown q8
  have kq9 := cell_regrown q9
  have kq10 := cell_regrown q10
  have kq11 := cell_regrown q11
  clear q0 q1 q2 q3 q4 q5 q6 q7 q8 q9 q10 q11 hq
  obtain ⟨t0, t1, t2, t3, t4, t5, t6, t7, t8, t9, t10⟩ := eleven_in ht
  have kt0 := cell_regrown t0
  have kt1 := cell_regrown t1
  have kt2 := cell_regrown t2
  have kt3 := cell_regrown t3
  have kt4 := cell_regrown t4
  have kt5 := cell_regrown t5
  have kt6 := cell_regrown t6
  have kt7 := cell_regrown t7
  have kt8 := cell_regrown t8
  have kt9 := cell_regrown t9
  have kt10 := cell_regrown t10
  clear t0 t1 t2 t3 t4 t5 t6 t7 t8 t9 t10 ht
  have d1 := fun d os => Calls.regrown_of (e1 (grow (redrawn w3 d) os))
  have d2 := fun d os => Calls.regrown_of (e2 (grow (redrawn w3 d) os))
  have d3 := fun d os => Calls.regrown_of (e3 (grow (redrawn w3 d) os))
  have d4 := fun d os => Calls.regrown_of (e4 (grow (redrawn w3 d) os))
  have d5 := fun d os => Calls.regrown_of (e5 (grow (redrawn w3 d) os))
  have d6 := fun d os => Calls.regrown_of (e6 (grow (redrawn w3 d) os))
  have d7 := fun d os => Calls.regrown_of (e7 (grow (redrawn w3 d) os))
  have d8 := fun d os => Calls.regrown_of (e8 (grow (redrawn w3 d) os))
  have d9 := fun d os => Calls.regrown_of (c4 (grow (redrawn w3 d) os))
  clear e1 e2 e3 e4 e5 e6 e7 e8 c4 ct
  refine wp_region_quiet_below (by kernel_rfl) (by kernel_rfl) ?_
  repeat (quiet_step (first | (with_reducible exact d1 _ _) | (with_reducible exact d2 _ _) | (with_reducible exact d3 _ _) | (with_reducible exact d4 _ _) | (with_reducible exact d5 _ _) | (with_reducible exact d6 _ _) | (with_reducible exact d7 _ _) | (with_reducible exact d8 _ _) | (with_reducible exact d9 _ _)))
  refine wpQuiet_nil ?_
  intro w4 hw
  replace hw := below_again hw
  clear d1 d2 d3 d4 d5 d6 d7 d8 d9 kp0 kp1 kp2 kp3 kp4 kp5 kp6 kp7 kp8 kp9 kp10 kp11 ks0 ks1 ks2 ks3 ks4 ks5 ks6 ks7 ks8 ks9 ks10 kq0 kq1 kq2 kq3 kq4 kq5 kq6 kq7 kq8 kq9 kq10 kq11 kt0 kt1 kt2 kt3 kt4 kt5 kt6 kt7 kt8 kt9 kt10
  go_wp2_with fail
  go_ret
  exact ⟨rfl, B.trans (hw.mono B.size)⟩
set_option maxRecDepth 100000 in
theorem lifted (os : Os) (started : os.Started) (H : Type) (enc : TypeId × Value → H) :
    ReturnsInHanded {} Tryz.checked os 3 .any (Rows.rootdTellsSpec.pre6 enc Tryz.prog Tryz.f3 Rows.rootdTellsRow.domain false) (Rows.rootdTellsSpec.post enc Tryz.prog Tryz.f3 false true false false) := by
  refine returnsInHanded_of_change (C := Tryz.checked) own started (by kernel_rfl) Tryz.func3
    (ChangeSpec.witness6 (enc := enc) (C := Tryz.checked) false ⟨#[], #[.agg #[.int .i64 0, .int .i64 0, .int .i64 0, .int .i64 0, .int .i64 0, .int .i64 0, .int .i64 0, .int .i64 0, .int .i64 0, .int .i64 0, .int .i64 0, .int .i64 0], .agg #[.int .i64 0, .int .i64 0, .int .u32 0, .int .i64 0, .int .i64 0, .int .i64 0, .int .i64 0, .int .i64 0, .int .i64 0, .int .i64 0, .int .u8 0], .int .u32 0, .int .i64 0, .int .i64 0], []⟩ 8 (by kernel_rfl) (by kernel_rfl) (by kernel_rfl) (by kernel_rfl)) ?_
  intro W base args ds gs before hval0 hW hcnd _
  have hval : ∀ (j : Nat) t v, Tryz.f3.params[j]? = some t → args[j]? = some v → Value.okWide Tryz.prog W .any base t v := hval0
  have hW' := hW
  obtain ⟨p, q, hA0, hV, rfl, hfz, hnd⟩ := hW
  have hA : DataW.TrodAll enc Tryz.prog W 0 (fun _ => true) true Tryz.f3.params.toList args.toList ds p := hA0
  rw [Tryz.params3] at hA hval
  obtain ⟨v0, vs0, d0, ds0, p0, q0, hargs, rfl, rfl, h0, r0⟩ := trodAll_cons hA
  obtain ⟨v1, vs1, d1, ds1, p1, q1, rfl, rfl, rfl, h1, r1⟩ := trodAll_cons r0
  obtain ⟨v2, vs2, d2, ds2, p2, q2, rfl, rfl, rfl, h2, r2⟩ := trodAll_cons r1
  obtain ⟨v3, vs3, d3, ds3, p3, q3, rfl, rfl, rfl, h3, r3⟩ := trodAll_cons r2
  obtain ⟨v4, vs4, d4, ds4, p4, q4, rfl, rfl, rfl, h4, r4⟩ := trodAll_cons r3
  obtain ⟨rfl, rfl, rfl⟩ := trodAll_nil r4
  obtain rfl : args = #[v0, v1, v2, v3, v4] := by cases args; simp_all
  obtain ⟨rfl, rfl⟩ := trodVars_none hV
  have k0 := h0
  have lt0 : ∀ x ∈ p0, x.block < W.heap.size := by obtain ⟨m, hm⟩ := k0; exact DataW.trod_lt m _ _ _ hm
  obtain ⟨a0, rfl, w0⟩ := open_pm (hval 0 23 v0 rfl rfl) h0
  have k1 := h1
  have lt1 : ∀ x ∈ p1, x.block < W.heap.size := by obtain ⟨m, hm⟩ := k1; exact DataW.trod_lt m _ _ _ hm
  obtain ⟨a1, rfl, w1⟩ := open_srv (hval 1 28 v1 rfl rfl) h1
  obtain ⟨a2, rfl, rfl, rfl, w2⟩ := open_int Tryz.underlying24 (hval 2 24 v2 rfl rfl) h2
  obtain ⟨a3, rfl, rfl, rfl, w3⟩ := open_int Tryz.underlying3 (hval 3 3 v3 rfl rfl) h3
  obtain ⟨a4, rfl, rfl, rfl, w4⟩ := open_int Tryz.underlying2 (hval 4 2 v4 rfl rfl) h4
  clear hA0 hval0
  refine (walk a0 a1 a2 a3 a4 W w0 w1 w2 w3 w4).mono fun e W' ⟨he, bel⟩ => ?_
  subst he
  exact ⟨_, rfl, _, _, _, [], _, [], hW', trodAll_mk1 (shut_bool Tryz.underlying4 _), (trodAll_cons_mk (Below.trod laidOut (by kernel_rfl) (of_decide_eq_true (by kernel_rfl)) k0 bel lt0) (trodAll_cons_mk (Below.trod laidOut (by kernel_rfl) (of_decide_eq_true (by kernel_rfl)) k1 bel lt1) (trodAll_cons_mk (shut_int Tryz.underlying24 w2) (trodAll_cons_mk (shut_int Tryz.underlying3 w3) (trodAll_cons_mk (shut_int Tryz.underlying2 w4) trodAll_mk0))))), rfl, bel.frame _, fun h => by cases h⟩

theorem over : Rows.rootdTellsRow.holds Tryz.pinned (OpenSpec.ofChange Rows.rootdTellsSpec) :=
  OpenClaim.holds_of_wide 3 Tryz.f3 rfl rfl rfl rfl rfl rfl rfl ⟨rfl, rfl, rfl, rfl, rfl⟩ rfl rfl rfl rfl rfl (by kernel_rfl) Tryz.func3 (by kernel_rfl)
    (of_decide_eq_true (by kernel_rfl)) (by unfold Func.isWrapper; first | (rw [if_pos (by decide +kernel)]; kernel_rfl) | (rw [if_neg (by decide +kernel)]; exact ⟨rfl, rfl⟩))
    (fun os started H enc _ => lifted os started H enc)

theorem proved : Rows.RootdTellsSaid := over
end Go.Proofs.YtkjecjehphgpjaaGreat.RootdTells
