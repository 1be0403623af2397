/- RootdAges: with time a server gets further away, and its span wider; its offset is in it. No condition. (Written by wip/genOd.py.) -/
import Derived.Test.YtkjecjehphgpjaaRtY
import Derived.Test.YtkjecjehphgpjaaRtZ
import Derived.Test.YtkjecjehphgpjaaFixD
import Derived.Test.YtkjecjehphgpjaaWideA
import Derived.Test.YtkjecjehphgpjaaSlA
import Derived.OpenShut
import Derived.ChangeOld
import Derived.Lib.Hide
import Derived.OneCell
import Derived.Lib.Zigzag
import Derived.WalkKit
import Derived.WalkSpells
import Derived.WalkLawsBesides
import Derived.Handy
import Derived.ProofKit
import Derived.ShutString
import Derived.Below
namespace Go.Proofs.Ytkjecjehphgpjaa.RootdAges
open Go.Proofs.Ytkjecjehphgpjaa.W
open Go.ChangeShapes Go.WideShapes Go.ChangeAt Go.RowKit
open Go.ChangeMaps (open_string shut_string)
set_option linter.unusedVariables false
theorem own : ownKnob Try.prog.godebug = none := by kernel_rfl
theorem laidOut : laidOutB Try.prog = true := by kernel_rfl
open Go.Sort
set_option linter.unusedSimpArgs false
set_option maxRecDepth 100000 in
set_option maxHeartbeats 25600000 in
theorem walk (s : Sv) (a b : Int) (w : World) (ts : s.Typed) (wa : (Lit.int .i64 a).wf = true) (wb : (Lit.int .i64 b).wf = true) :
    Calls Try.prog 3 #[s.val, .int .i64 a, .int .i64 b] w fun e w' => e = .returned (.bool true) ∧ Below w.heap.size w w' := by
  have ba := bounds_i64 wa
  have bb := bounds_i64 wb
  clear wa wb
  have c1 := std15_any
  have c4 := shown15_any
  have H := std_params
  have hf := std_phi
  generalize chkP stdC = p at *
  obtain ⟨lo, hlo⟩ : ∃ lo, min a b = lo := ⟨_, rfl⟩
  obtain ⟨hi, hhi⟩ : ∃ hi, max a b = hi := ⟨_, rfl⟩
  have hlh : lo ≤ hi := by omega
  have cd1 := tdist_any p H.typed s ts lo (by omega)
  have cd2 := tdist_any p H.typed s ts hi (by omega)
  have cs1 := tspan_any p H.typed s ts lo (by omega)
  have cs2 := tspan_any p H.typed s ts hi (by omega)
  have hmin := fun ts t => run_min15 a b lo hlo ts t
  have hmax := fun ts t => run_max15 a b hi hhi ts t
  have hmo := fun ts t => run_max15 s.t.off (-9223372036854775807) _ rfl ts t
  have m1 : ¬ distI p s hi < distI p s lo := by have := dist_mono (p := p) (by omega) s hlh; omega
  have m2 : ¬ lowI p s lo < lowI p s hi := by have := (span_mono (p := p) (by omega) s hlh).1; omega
  have m3 : ¬ highI p s hi < highI p s lo := by have := (span_mono (p := p) (by omega) s hlh).2; omega
  have din := fun h1 h2 h3 => dist_in (p := p) (by omega) s ts h1 h2 h3 lo
  generalize distI p s lo = D1 at *
  generalize distI p s hi = D2 at *
  generalize lowI p s lo = L1 at *
  generalize lowI p s hi = L2 at *
  generalize highI p s lo = G1 at *
  generalize highI p s hi = G2 at *
  generalize max s.t.off (-9223372036854775807) = O at *
  have B := (Below.refl w.heap.size w).alloc (Nat.le_refl _) (.cells #[.int .i64 s.leap, .int .i64 s.str, .int .u32 s.ref, .int .i64 s.del, .int .i64 s.disp, .int .i64 s.t.off, .int .i64 s.t.del, .int .i64 s.t.disp, .int .i64 s.t.jit, .int .i64 s.t.at_, .int .u8 s.reg] 26)
  have hs := heap_alloc_new w (.cells #[.int .i64 s.leap, .int .i64 s.str, .int .u32 s.ref, .int .i64 s.del, .int .i64 s.disp, .int .i64 s.t.off, .int .i64 s.t.del, .int .i64 s.t.disp, .int .i64 s.t.jit, .int .i64 s.t.at_, .int .u8 s.reg] 26)
  unfold Pm.val Sv.val at *
  clear hlo hhi hlh hf H ts
  go_enter Try.func3, Try.ntmps3
  go_wp2_with fail
  generalize w.alloc (.cells #[.int .i64 s.leap, .int .i64 s.str, .int .u32 s.ref, .int .i64 s.del, .int .i64 s.disp, .int .i64 s.t.off, .int .i64 s.t.del, .int .i64 s.t.disp, .int .i64 s.t.jit, .int .i64 s.t.at_, .int .u8 s.reg] 26) = w0 at *
  have M := Lib.hid (And.intro hmin (And.intro hmax hmo))
  have MM := Lib.hid (And.intro m1 (And.intro m2 m3))
  have DI := Lib.hid din
  clear hmin hmax hmo m1 m2 m3 din
  go_wp2_with (first | (refine at_load_sv15 rfl _ rfl _ rfl hs rfl ?_))
  (with_reducible refine (c1 _).mono ?_)
  rintro e w1 ⟨rfl, hw⟩
  replace hs := kept hs hw
  replace B := B.trans (hw.mono B.size)
  clear hw
  have lw_hp : w1.heap.size < (w1.alloc (.cells #[.int .i64 p.step, .int .i64 p.watch, .int .i64 p.panic, .int .i64 p.maxrate, .int .i64 p.phi, .int .i64 p.maxdist, .int .i64 p.gate, .int .i64 p.minpoll, .int .i64 p.maxpoll, .int .i64 p.burst, .int .i64 p.minsane, .int .i64 p.minleft] 28)).heap.size := by simp
  replace hs := laid (.cells #[.int .i64 p.step, .int .i64 p.watch, .int .i64 p.panic, .int .i64 p.maxrate, .int .i64 p.phi, .int .i64 p.maxdist, .int .i64 p.gate, .int .i64 p.minpoll, .int .i64 p.maxpoll, .int .i64 p.burst, .int .i64 p.minsane, .int .i64 p.minleft] 28) hs
  have hp := heap_alloc_new w1 (.cells #[.int .i64 p.step, .int .i64 p.watch, .int .i64 p.panic, .int .i64 p.maxrate, .int .i64 p.phi, .int .i64 p.maxdist, .int .i64 p.gate, .int .i64 p.minpoll, .int .i64 p.maxpoll, .int .i64 p.burst, .int .i64 p.minsane, .int .i64 p.minleft] 28)
  replace B := B.alloc B.size (.cells #[.int .i64 p.step, .int .i64 p.watch, .int .i64 p.panic, .int .i64 p.maxrate, .int .i64 p.phi, .int .i64 p.maxdist, .int .i64 p.gate, .int .i64 p.minpoll, .int .i64 p.maxpoll, .int .i64 p.burst, .int .i64 p.minsane, .int .i64 p.minleft] 28)
  go_upto_region 2 with fail
  generalize w1.alloc (.cells #[.int .i64 p.step, .int .i64 p.watch, .int .i64 p.panic, .int .i64 p.maxrate, .int .i64 p.phi, .int .i64 p.maxdist, .int .i64 p.gate, .int .i64 p.minpoll, .int .i64 p.maxpoll, .int .i64 p.burst, .int .i64 p.minsane, .int .i64 p.minleft] 28) = w2 at *
  obtain ⟨hmin, hmax, hmo⟩ := M.out
  go_wp2_with (first | (refine at_load_sv15 rfl _ rfl _ rfl hs rfl ?_) | (refine at_load_pm10 rfl _ rfl _ rfl hp rfl ?_))
  (with_reducible refine (cd1 _).mono ?_)
  rintro e w3 ⟨rfl, hw⟩
  replace hs := kept hs hw
  replace hp := kept hp hw
  replace B := B.trans (hw.mono B.size)
  clear hw
  go_wp2_with (first | (refine at_load_sv15 rfl _ rfl _ rfl hs rfl ?_) | (refine at_load_pm10 rfl _ rfl _ rfl hp rfl ?_))
  (with_reducible refine (cd2 _).mono ?_)
  rintro e w4 ⟨rfl, hw⟩
  replace hs := kept hs hw
  replace hp := kept hp hw
  replace B := B.trans (hw.mono B.size)
  clear hw
  go_wp2_with (first | (refine at_load_sv15 rfl _ rfl _ rfl hs rfl ?_) | (refine at_load_pm10 rfl _ rfl _ rfl hp rfl ?_))
  (with_reducible refine (cs1 _).mono ?_)
  rintro e w5 ⟨rfl, hw⟩
  replace hs := kept hs hw
  replace hp := kept hp hw
  replace B := B.trans (hw.mono B.size)
  clear hw
  have lw_hx : w5.heap.size < (w5.alloc (.cells #[.int .i64 L1, .int .i64 G1] 32)).heap.size := by simp
  replace hs := laid (.cells #[.int .i64 L1, .int .i64 G1] 32) hs
  replace hp := laid (.cells #[.int .i64 L1, .int .i64 G1] 32) hp
  have hx := heap_alloc_new w5 (.cells #[.int .i64 L1, .int .i64 G1] 32)
  replace B := B.alloc B.size (.cells #[.int .i64 L1, .int .i64 G1] 32)
  go_upto_region 5 with fail
  generalize w5.alloc (.cells #[.int .i64 L1, .int .i64 G1] 32) = w6 at *
  go_wp2_with (first | (refine at_load_sv15 rfl _ rfl _ rfl hs rfl ?_) | (refine at_load_pm10 rfl _ rfl _ rfl hp rfl ?_))
  (with_reducible refine (cs2 _).mono ?_)
  rintro e w7 ⟨rfl, hw⟩
  replace hs := kept hs hw
  replace hp := kept hp hw
  replace hx := kept hx hw
  replace B := B.trans (hw.mono B.size)
  clear hw
  have lw_hy : w7.heap.size < (w7.alloc (.cells #[.int .i64 L2, .int .i64 G2] 32)).heap.size := by simp
  replace hs := laid (.cells #[.int .i64 L2, .int .i64 G2] 32) hs
  replace hp := laid (.cells #[.int .i64 L2, .int .i64 G2] 32) hp
  replace hx := laid (.cells #[.int .i64 L2, .int .i64 G2] 32) hx
  have hy := heap_alloc_new w7 (.cells #[.int .i64 L2, .int .i64 G2] 32)
  replace B := B.alloc B.size (.cells #[.int .i64 L2, .int .i64 G2] 32)
  go_upto_region 6 with fail
  generalize w7.alloc (.cells #[.int .i64 L2, .int .i64 G2] 32) = w8 at *
  obtain ⟨m1, m2, m3⟩ := MM.out
  obtain ⟨x0, x1⟩ := two_in15 hx
  obtain ⟨y0, y1⟩ := two_in15 hy
  clear cd1 cd2 cs1 cs2 c1 hmin hmax
  go_wp2_with (first | (refine at_load_sv15 rfl _ rfl _ rfl hs rfl ?_) | (refine at_load_pm10 rfl _ rfl _ rfl hp rfl ?_))
  (with_reducible refine (c4 _).mono ?_)
  rintro e w9 ⟨rfl, hw⟩
  replace hs := kept hs hw
  replace hp := kept hp hw
  replace hx := kept hx hw
  replace hy := kept hy hw
  replace B := B.trans (hw.mono B.size)
  clear hw
  clear x0 x1 y0 y1
  obtain ⟨x0, x1⟩ := two_in15 hx
  obtain ⟨s0, s1, s2, s3, s4, s5, s6, s7, s8, s9, s10⟩ := eleven_in hs
  have BB := Lib.hid B
  clear hx hy hs hp B c4
  by_cases h1 : s.disp < 0
  · go_wp2_with fail
    go_ret
    exact ⟨rfl, BB.out⟩
  by_cases h2 : s.t.disp < 0
  · go_wp2_with fail
    go_ret
    exact ⟨rfl, BB.out⟩
  by_cases h3 : s.t.jit < 0
  · go_wp2_with fail
    go_ret
    exact ⟨rfl, BB.out⟩
  obtain ⟨i1, i2, i3⟩ := DI.out (by omega) (by omega) (by omega)
  go_wp2_with fail
  go_ret
  exact ⟨rfl, BB.out⟩
set_option maxRecDepth 100000 in
theorem lifted (os : Os) (started : os.Started) (H : Type) (enc : TypeId × Value → H) :
    ReturnsInHanded {} Try.checked os 3 .any (Rows.rootdAgesSpec.pre6 enc Try.prog Try.f3 Rows.rootdAgesRow.domain false) (Rows.rootdAgesSpec.post enc Try.prog Try.f3 false true false false) := by
  refine returnsInHanded_of_change (C := Try.checked) own started (by kernel_rfl) Try.func3
    (ChangeSpec.witness6 (enc := enc) (C := Try.checked) false ⟨#[], #[.agg #[.int .i64 0, .int .i64 0, .int .u32 0, .int .i64 0, .int .i64 0, .int .i64 0, .int .i64 0, .int .i64 0, .int .i64 0, .int .i64 0, .int .u8 0], .int .i64 0, .int .i64 0], []⟩ 8 (by kernel_rfl) (by kernel_rfl) (by kernel_rfl) (by kernel_rfl)) ?_
  intro W base args ds gs before hval0 hW hcnd _
  have hval : ∀ (j : Nat) t v, Try.f3.params[j]? = some t → args[j]? = some v → Value.okWide Try.prog W .any base t v := hval0
  have hW' := hW
  obtain ⟨p, q, hA0, hV, rfl, hfz, hnd⟩ := hW
  have hA : DataW.TrodAll enc Try.prog W 0 (fun _ => true) true Try.f3.params.toList args.toList ds p := hA0
  rw [Try.params3] at hA hval
  obtain ⟨v0, vs0, d0, ds0, p0, q0, hargs, rfl, rfl, h0, r0⟩ := trodAll_cons hA
  obtain ⟨v1, vs1, d1, ds1, p1, q1, rfl, rfl, rfl, h1, r1⟩ := trodAll_cons r0
  obtain ⟨v2, vs2, d2, ds2, p2, q2, rfl, rfl, rfl, h2, r2⟩ := trodAll_cons r1
  obtain ⟨rfl, rfl, rfl⟩ := trodAll_nil r2
  obtain rfl : args = #[v0, v1, v2] := by cases args; simp_all
  obtain ⟨rfl, rfl⟩ := trodVars_none hV
  have k0 := h0
  have lt0 : ∀ x ∈ p0, x.block < W.heap.size := by obtain ⟨m, hm⟩ := k0; exact DataW.trod_lt m _ _ _ hm
  obtain ⟨a0, rfl, w0⟩ := open_srv (hval 0 26 v0 rfl rfl) h0
  obtain ⟨a1, rfl, rfl, rfl, w1⟩ := open_int Try.underlying2 (hval 1 2 v1 rfl rfl) h1
  obtain ⟨a2, rfl, rfl, rfl, w2⟩ := open_int Try.underlying2 (hval 2 2 v2 rfl rfl) h2
  clear hA0 hval0
  refine (walk a0 a1 a2 W w0 w1 w2).mono fun e W' ⟨he, bel⟩ => ?_
  subst he
  exact ⟨_, rfl, _, _, _, [], _, [], hW', trodAll_mk1 (shut_bool Try.underlying4 _), (trodAll_cons_mk (Below.trod laidOut (by kernel_rfl) (of_decide_eq_true (by kernel_rfl)) k0 bel lt0) (trodAll_cons_mk (shut_int Try.underlying2 w1) (trodAll_cons_mk (shut_int Try.underlying2 w2) trodAll_mk0))), rfl, bel.frame _, fun h => by cases h⟩

theorem over : Rows.rootdAgesRow.holds Try.pinned (OpenSpec.ofChange Rows.rootdAgesSpec) :=
  OpenClaim.holds_of_wide 3 Try.f3 rfl rfl rfl rfl rfl rfl rfl ⟨rfl, rfl, rfl, rfl, rfl⟩ rfl rfl rfl rfl rfl (by kernel_rfl) Try.func3 (by kernel_rfl)
    (of_decide_eq_true (by kernel_rfl)) (by unfold Func.isWrapper; first | (rw [if_pos (by decide +kernel)]; kernel_rfl) | (rw [if_neg (by decide +kernel)]; exact ⟨rfl, rfl⟩))
    (fun os started H enc _ => lifted os started H enc)

theorem proved : Rows.RootdAgesSaid := over
end Go.Proofs.Ytkjecjehphgpjaa.RootdAges
