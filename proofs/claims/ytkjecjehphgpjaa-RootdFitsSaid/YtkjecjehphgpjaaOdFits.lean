/- RootdFits: a server that is fit has a stratum of its own, is near, was heard, and is nobody that is led by us. No condition. (Written by wip/genOd.py.) -/
import Derived.Test.YtkjecjehphgpjaaRtY
import Derived.Test.YtkjecjehphgpjaaRtZ
import Derived.Test.YtkjecjehphgpjaaFixD
import Derived.Test.YtkjecjehphgpjaaWideA
import Derived.Test.YtkjecjehphgpjaaSlA
import Derived.OpenShut
import Derived.ChangeOld
import Derived.Lib.Hide
import Derived.OneCell
import Derived.Lib.Zigzag
import Derived.WalkKit
import Derived.WalkSpells
import Derived.WalkLawsBesides
import Derived.Handy
import Derived.ProofKit
import Derived.ShutString
import Derived.Below
namespace Go.Proofs.Ytkjecjehphgpjaa.RootdFits
open Go.Proofs.Ytkjecjehphgpjaa.W
open Go.ChangeShapes Go.WideShapes Go.ChangeAt Go.RowKit
open Go.ChangeMaps (open_string shut_string)
set_option linter.unusedVariables false
theorem own : ownKnob Try.prog.godebug = none := by kernel_rfl
theorem laidOut : laidOutB Try.prog = true := by kernel_rfl
open Go.Sort
set_option linter.unusedSimpArgs false
set_option maxRecDepth 100000 in
set_option maxHeartbeats 25600000 in
theorem walk (s : Sv) (own poll at_ : Int) (w : World) (ts : s.Typed) (wo : (Lit.int .u32 own).wf = true) (wp : (Lit.int .u8 poll).wf = true) (wa : (Lit.int .u32 at_).wf = true) :
    Calls Try.prog 4 #[s.val, .int .u32 own, .int .u8 poll, .int .u32 at_] w fun e w' => e = .returned (.bool true) ∧ Below w.heap.size w w' := by
  have bo := bounds_u32 wo
  have bp := bounds_u8 wp
  have ba := bounds_u32 wa
  clear wo wp wa
  have c1 := std15_any
  have c4 := shown15_any
  have H := std_params
  have hf := std_phi
  have hd := std_dist
  generalize chkP stdC = p at *
  obtain ⟨n, hn⟩ : ∃ n : Int, poll % 18 = n := ⟨_, rfl⟩
  have hn0 : 0 ≤ n ∧ n < 18 := by omega
  have tm : poll.tmod 18 = n := by rw [Int.tmod_eq_emod_of_nonneg (by omega)]; exact hn
  have cf := tfit_any p H.typed s ts own n at_ (by omega) (by omega) (by omega)
  have fc := fit_cases p s own n at_
  have fo := fun h => fit_ok (p := p) (s := s) (own := own) (poll := n) (at_ := at_) h
  have ts0 : (Sv.mk s.leap s.str s.ref s.del s.disp s.t 0).Typed := ⟨ts.leap, ts.str, ts.ref, ts.del, ts.disp, ts.t, by dsimp only; decide⟩
  have ts3 : (Sv.mk 3 s.str s.ref s.del s.disp s.t 0).Typed := ⟨by dsimp only; decide, ts.str, ts.ref, ts.del, ts.disp, ts.t, by dsimp only; decide⟩
  have cf0 := tfit_any p H.typed _ ts0 own n at_ (by omega) (by omega) (by omega)
  have cf3 := tfit_any p H.typed _ ts3 own n at_ (by omega) (by omega) (by omega)
  have cd3 := tdist_any p H.typed _ ts3 at_ (by omega)
  have ed : distI p (Sv.mk 3 s.str s.ref s.del s.disp s.t 0) at_ = distI p s at_ := rfl
  rw [ed] at cd3
  have ls := lim_std hf hd hn0.1 hn0.2
  have B := (Below.refl w.heap.size w).alloc (Nat.le_refl _) (.cells #[.int .i64 s.leap, .int .i64 s.str, .int .u32 s.ref, .int .i64 s.del, .int .i64 s.disp, .int .i64 s.t.off, .int .i64 s.t.del, .int .i64 s.t.disp, .int .i64 s.t.jit, .int .i64 s.t.at_, .int .u8 s.reg] 26)
  have hs := heap_alloc_new w (.cells #[.int .i64 s.leap, .int .i64 s.str, .int .u32 s.ref, .int .i64 s.del, .int .i64 s.disp, .int .i64 s.t.off, .int .i64 s.t.del, .int .i64 s.t.disp, .int .i64 s.t.jit, .int .i64 s.t.at_, .int .u8 s.reg] 26)
  generalize fitE p s own n at_ = E at *
  generalize distI p s at_ = D at *
  unfold Pm.val Sv.val at *
  dsimp only at cf0 cf3 cd3
  have LS := Lib.hid (And.intro ls (And.intro fc fo))
  clear hn hf hd H ts ts0 ts3 ed ls fc fo
  go_enter Try.func4, Try.ntmps4
  go_wp2_with fail
  generalize w.alloc (.cells #[.int .i64 s.leap, .int .i64 s.str, .int .u32 s.ref, .int .i64 s.del, .int .i64 s.disp, .int .i64 s.t.off, .int .i64 s.t.del, .int .i64 s.t.disp, .int .i64 s.t.jit, .int .i64 s.t.at_, .int .u8 s.reg] 26) = w0 at *
  go_wp2_with (first | (refine at_load_sv15 rfl _ rfl _ rfl hs rfl ?_))
  (with_reducible refine (c1 _).mono ?_)
  rintro e w1 ⟨rfl, hw⟩
  replace hs := kept hs hw
  replace B := B.trans (hw.mono B.size)
  clear hw
  have lw_hp : w1.heap.size < (w1.alloc (.cells #[.int .i64 p.step, .int .i64 p.watch, .int .i64 p.panic, .int .i64 p.maxrate, .int .i64 p.phi, .int .i64 p.maxdist, .int .i64 p.gate, .int .i64 p.minpoll, .int .i64 p.maxpoll, .int .i64 p.burst, .int .i64 p.minsane, .int .i64 p.minleft] 28)).heap.size := by simp
  replace hs := laid (.cells #[.int .i64 p.step, .int .i64 p.watch, .int .i64 p.panic, .int .i64 p.maxrate, .int .i64 p.phi, .int .i64 p.maxdist, .int .i64 p.gate, .int .i64 p.minpoll, .int .i64 p.maxpoll, .int .i64 p.burst, .int .i64 p.minsane, .int .i64 p.minleft] 28) hs
  have hp := heap_alloc_new w1 (.cells #[.int .i64 p.step, .int .i64 p.watch, .int .i64 p.panic, .int .i64 p.maxrate, .int .i64 p.phi, .int .i64 p.maxdist, .int .i64 p.gate, .int .i64 p.minpoll, .int .i64 p.maxpoll, .int .i64 p.burst, .int .i64 p.minsane, .int .i64 p.minleft] 28)
  replace B := B.alloc B.size (.cells #[.int .i64 p.step, .int .i64 p.watch, .int .i64 p.panic, .int .i64 p.maxrate, .int .i64 p.phi, .int .i64 p.maxdist, .int .i64 p.gate, .int .i64 p.minpoll, .int .i64 p.maxpoll, .int .i64 p.burst, .int .i64 p.minsane, .int .i64 p.minleft] 28)
  go_upto_region 2 with fail
  generalize w1.alloc (.cells #[.int .i64 p.step, .int .i64 p.watch, .int .i64 p.panic, .int .i64 p.maxrate, .int .i64 p.phi, .int .i64 p.maxdist, .int .i64 p.gate, .int .i64 p.minpoll, .int .i64 p.maxpoll, .int .i64 p.burst, .int .i64 p.minsane, .int .i64 p.minleft] 28) = w2 at *
  go_wp2_with (first | (refine at_load_sv15 rfl _ rfl _ rfl hs rfl ?_) | (refine at_load_pm10 rfl _ rfl _ rfl hp rfl ?_))
  (with_reducible refine (cf _).mono ?_)
  rintro e w3 ⟨rfl, hw⟩
  replace hs := kept hs hw
  replace hp := kept hp hw
  replace B := B.trans (hw.mono B.size)
  clear hw
  go_wp2_with (first | (refine at_load_sv15 rfl _ rfl _ rfl hs rfl ?_) | (refine at_load_pm10 rfl _ rfl _ rfl hp rfl ?_))
  (with_reducible refine (c4 _).mono ?_)
  rintro e w4 ⟨rfl, hw⟩
  replace hs := kept hs hw
  replace hp := kept hp hw
  replace B := B.trans (hw.mono B.size)
  clear hw
  obtain ⟨ls, fc, fo⟩ := LS.out
  clear LS cf c4 c1
  have lsb : w.heap.size ≠ w1.heap.size := by have := (Array.getElem?_eq_some_iff.1 hs).1; intro e; rw [e] at hs; rw [hp] at hs; injection hs with e1; injection e1 with e2; exact absurd (congrArg Array.size e2) (by simp)
  by_cases hE : E = 0
  · obtain ⟨q1, q2, q3, q4, q5⟩ := fo hE
    rw [q4] at cf0
    rw [q5] at cf3
    have hlt : D < 21474836480 := by omega
    clear q4 q5 q3 ls fc fo
    subst hE
    have hs0 : (w4.setCell ⟨w.heap.size, 10, none⟩ (.int .u8 0)).heap[w.heap.size]? = some (.cells #[.int .i64 s.leap, .int .i64 s.str, .int .u32 s.ref, .int .i64 s.del, .int .i64 s.disp, .int .i64 s.t.off, .int .i64 s.t.del, .int .i64 s.t.disp, .int .i64 s.t.jit, .int .i64 s.t.at_, .int .u8 0] 26 (0, 0)) := block_set 10 (.int .u8 0) hs
    have hp0 := (block_far 10 (.int .u8 0) (show w1.heap.size ≠ w.heap.size from fun e => lsb e.symm)).trans hp
    have B0 := B.setCell (p := ⟨w.heap.size, 10, none⟩) (Nat.le_refl _) (.int .u8 0)
    obtain ⟨s0, s1, s2, s3, s4, s5, s6, s7, s8, s9, s10⟩ := eleven_in hs
    have fz := bc_frozenK hs
    have E0 := Lib.hid (And.intro hs0 (And.intro hp0 B0))
    clear hs0 hp0 B0 B hs hp
    go_upto_region 8 with fail
    obtain ⟨hs, hp, B⟩ := E0.out
    clear s0 s1 s2 s3 s4 s5 s6 s7 s8 s9 s10 fz E0
    generalize w4.setCell ⟨w.heap.size, 10, none⟩ (.int .u8 0) = w5 at *
    go_wp2_with (first | (refine at_load_sv15 rfl _ rfl _ rfl hs rfl ?_) | (refine at_load_pm10 rfl _ rfl _ rfl hp rfl ?_))
    (with_reducible refine (cf0 _).mono ?_)
    rintro e w6 ⟨rfl, hw⟩
    replace hs := kept hs hw
    replace hp := kept hp hw
    replace B := B.trans (hw.mono B.size)
    clear hw
    have hs0 : (w6.setCell ⟨w.heap.size, 0, none⟩ (.int .i64 3)).heap[w.heap.size]? = some (.cells #[.int .i64 3, .int .i64 s.str, .int .u32 s.ref, .int .i64 s.del, .int .i64 s.disp, .int .i64 s.t.off, .int .i64 s.t.del, .int .i64 s.t.disp, .int .i64 s.t.jit, .int .i64 s.t.at_, .int .u8 0] 26 (0, 0)) := block_set 0 (.int .i64 3) hs
    have hp0 := (block_far 0 (.int .i64 3) (show w1.heap.size ≠ w.heap.size from fun e => lsb e.symm)).trans hp
    have B0 := B.setCell (p := ⟨w.heap.size, 0, none⟩) (Nat.le_refl _) (.int .i64 3)
    obtain ⟨s0, s1, s2, s3, s4, s5, s6, s7, s8, s9, s10⟩ := eleven_in hs
    have fz := bc_frozenK hs
    have E0 := Lib.hid (And.intro hs0 (And.intro hp0 B0))
    clear hs0 hp0 B0 B hs hp cf0
    go_upto_region 10 with fail
    obtain ⟨hs, hp, B⟩ := E0.out
    clear s0 s1 s2 s3 s4 s5 s6 s7 s8 s9 s10 fz E0
    generalize w6.setCell ⟨w.heap.size, 0, none⟩ (.int .i64 3) = w7 at *
    obtain ⟨s0, s1, s2, s3, s4, s5, s6, s7, s8, s9, s10⟩ := eleven_in hs
    obtain ⟨a0, a1, a2, a3, a4, a5, a6, a7, a8, a9, a10, a11⟩ := twelve_atK hp
    go_wp2_with fail
    (with_reducible refine (cd3 _).mono ?_)
    rintro e w8 ⟨rfl, hw⟩
    replace hs := kept hs hw
    replace hp := kept hp hw
    replace B := B.trans (hw.mono B.size)
    clear s0 s1 s2 s3 s4 s5 s6 s7 s8 s9 s10 a0 a1 a2 a3 a4 a5 a6 a7 a8 a9 a10 a11 hw cd3
    obtain ⟨s0, s1, s2, s3, s4, s5, s6, s7, s8, s9, s10⟩ := eleven_in hs
    obtain ⟨a0, a1, a2, a3, a4, a5, a6, a7, a8, a9, a10, a11⟩ := twelve_atK hp
    go_wp2_with fail
    (with_reducible refine (cf3 _).mono ?_)
    rintro e w9 ⟨rfl, hw⟩
    replace B := B.trans (hw.mono B.size)
    clear s0 s1 s2 s3 s4 s5 s6 s7 s8 s9 s10 a0 a1 a2 a3 a4 a5 a6 a7 a8 a9 a10 a11 hw cf3 hs hp
    go_wp2_with fail
    go_ret
    exact ⟨rfl, B⟩
  · have BB := Lib.hid B
    clear hs hp B fo ls cf0 cf3 cd3
    rcases fc with h | h | h | h | h
    · exact absurd h hE
    all_goals
      subst h
      go_wp2_with fail
      go_ret
      exact ⟨rfl, BB.out⟩
set_option maxRecDepth 100000 in
theorem lifted (os : Os) (started : os.Started) (H : Type) (enc : TypeId × Value → H) :
    ReturnsInHanded {} Try.checked os 4 .any (Rows.rootdFitsSpec.pre6 enc Try.prog Try.f4 Rows.rootdFitsRow.domain false) (Rows.rootdFitsSpec.post enc Try.prog Try.f4 false true false false) := by
  refine returnsInHanded_of_change (C := Try.checked) own started (by kernel_rfl) Try.func4
    (ChangeSpec.witness6 (enc := enc) (C := Try.checked) false ⟨#[], #[.agg #[.int .i64 0, .int .i64 0, .int .u32 0, .int .i64 0, .int .i64 0, .int .i64 0, .int .i64 0, .int .i64 0, .int .i64 0, .int .i64 0, .int .u8 0], .int .u32 0, .int .u8 0, .int .u32 0], []⟩ 8 (by kernel_rfl) (by kernel_rfl) (by kernel_rfl) (by kernel_rfl)) ?_
  intro W base args ds gs before hval0 hW hcnd _
  have hval : ∀ (j : Nat) t v, Try.f4.params[j]? = some t → args[j]? = some v → Value.okWide Try.prog W .any base t v := hval0
  have hW' := hW
  obtain ⟨p, q, hA0, hV, rfl, hfz, hnd⟩ := hW
  have hA : DataW.TrodAll enc Try.prog W 0 (fun _ => true) true Try.f4.params.toList args.toList ds p := hA0
  rw [Try.params4] at hA hval
  obtain ⟨v0, vs0, d0, ds0, p0, q0, hargs, rfl, rfl, h0, r0⟩ := trodAll_cons hA
  obtain ⟨v1, vs1, d1, ds1, p1, q1, rfl, rfl, rfl, h1, r1⟩ := trodAll_cons r0
  obtain ⟨v2, vs2, d2, ds2, p2, q2, rfl, rfl, rfl, h2, r2⟩ := trodAll_cons r1
  obtain ⟨v3, vs3, d3, ds3, p3, q3, rfl, rfl, rfl, h3, r3⟩ := trodAll_cons r2
  obtain ⟨rfl, rfl, rfl⟩ := trodAll_nil r3
  obtain rfl : args = #[v0, v1, v2, v3] := by cases args; simp_all
  obtain ⟨rfl, rfl⟩ := trodVars_none hV
  have k0 := h0
  have lt0 : ∀ x ∈ p0, x.block < W.heap.size := by obtain ⟨m, hm⟩ := k0; exact DataW.trod_lt m _ _ _ hm
  obtain ⟨a0, rfl, w0⟩ := open_srv (hval 0 26 v0 rfl rfl) h0
  obtain ⟨a1, rfl, rfl, rfl, w1⟩ := open_int Try.underlying22 (hval 1 22 v1 rfl rfl) h1
  obtain ⟨a2, rfl, rfl, rfl, w2⟩ := open_int Try.underlying5 (hval 2 5 v2 rfl rfl) h2
  obtain ⟨a3, rfl, rfl, rfl, w3⟩ := open_int Try.underlying22 (hval 3 22 v3 rfl rfl) h3
  clear hA0 hval0
  refine (walk a0 a1 a2 a3 W w0 w1 w2 w3).mono fun e W' ⟨he, bel⟩ => ?_
  subst he
  exact ⟨_, rfl, _, _, _, [], _, [], hW', trodAll_mk1 (shut_bool Try.underlying4 _), (trodAll_cons_mk (Below.trod laidOut (by kernel_rfl) (of_decide_eq_true (by kernel_rfl)) k0 bel lt0) (trodAll_cons_mk (shut_int Try.underlying22 w1) (trodAll_cons_mk (shut_int Try.underlying5 w2) (trodAll_cons_mk (shut_int Try.underlying22 w3) trodAll_mk0)))), rfl, bel.frame _, fun h => by cases h⟩

theorem over : Rows.rootdFitsRow.holds Try.pinned (OpenSpec.ofChange Rows.rootdFitsSpec) :=
  OpenClaim.holds_of_wide 4 Try.f4 rfl rfl rfl rfl rfl rfl rfl ⟨rfl, rfl, rfl, rfl, rfl⟩ rfl rfl rfl rfl rfl (by kernel_rfl) Try.func4 (by kernel_rfl)
    (of_decide_eq_true (by kernel_rfl)) (by unfold Func.isWrapper; first | (rw [if_pos (by decide +kernel)]; kernel_rfl) | (rw [if_neg (by decide +kernel)]; exact ⟨rfl, rfl⟩))
    (fun os started H enc _ => lifted os started H enc)

theorem proved : Rows.RootdFitsSaid := over
end Go.Proofs.Ytkjecjehphgpjaa.RootdFits
