/- RootdSpans: a server's span is as wide as it is far away, twice; a better stratum, as far away, is a lesser metric. No condition. (Written by wip/genOd.py.) -/
import Derived.Test.YtkjecjehphgpjaaRtY
import Derived.Test.YtkjecjehphgpjaaRtZ
import Derived.Test.YtkjecjehphgpjaaFixD
import Derived.Test.YtkjecjehphgpjaaWideA
import Derived.Test.YtkjecjehphgpjaaSlA
import Derived.OpenShut
import Derived.ChangeOld
import Derived.Lib.Hide
import Derived.OneCell
import Derived.Lib.Zigzag
import Derived.WalkKit
import Derived.WalkSpells
import Derived.WalkLawsBesides
import Derived.Handy
import Derived.ProofKit
import Derived.ShutString
import Derived.Below
namespace Go.Proofs.Ytkjecjehphgpjaa.RootdSpans
open Go.Proofs.Ytkjecjehphgpjaa.W
open Go.ChangeShapes Go.WideShapes Go.ChangeAt Go.RowKit
open Go.ChangeMaps (open_string shut_string)
set_option linter.unusedVariables false
theorem own : ownKnob Try.prog.godebug = none := by kernel_rfl
theorem laidOut : laidOutB Try.prog = true := by kernel_rfl
open Go.Sort
set_option linter.unusedSimpArgs false
set_option maxRecDepth 100000 in
set_option maxHeartbeats 25600000 in
theorem walk (s : Sv) (at_ k : Int) (w : World) (ts : s.Typed) (wa : (Lit.int .u32 at_).wf = true) (wk : (Lit.int .u8 k).wf = true) :
    Calls Try.prog 5 #[s.val, .int .u32 at_, .int .u8 k] w fun e w' => e = .returned (.bool true) ∧ Below w.heap.size w w' := by
  have ba := bounds_u32 wa
  have bk := bounds_u8 wk
  clear wa wk
  have c1 := std15_any
  have c4 := shown15_any
  have H := std_params
  have hd := std_dist
  generalize chkP stdC = p at *
  have hd0 : 0 ≤ p.maxdist := by omega
  clear hd
  have B := (Below.refl w.heap.size w).alloc (Nat.le_refl _) (.cells #[.int .i64 s.leap, .int .i64 s.str, .int .u32 s.ref, .int .i64 s.del, .int .i64 s.disp, .int .i64 s.t.off, .int .i64 s.t.del, .int .i64 s.t.disp, .int .i64 s.t.jit, .int .i64 s.t.at_, .int .u8 s.reg] 26)
  have hs := heap_alloc_new w (.cells #[.int .i64 s.leap, .int .i64 s.str, .int .u32 s.ref, .int .i64 s.del, .int .i64 s.disp, .int .i64 s.t.off, .int .i64 s.t.del, .int .i64 s.t.disp, .int .i64 s.t.jit, .int .i64 s.t.at_, .int .u8 s.reg] 26)
  by_cases hst : s.str < 0 ∨ 15 < s.str
  · unfold Pm.val Sv.val at *
    have hst' : s.str < 0 ∨ ¬ s.str < 0 ∧ 15 < s.str := by omega
    clear hst
    go_enter Try.func5, Try.ntmps5
    go_wp2_with fail
    generalize w.alloc (.cells #[.int .i64 s.leap, .int .i64 s.str, .int .u32 s.ref, .int .i64 s.del, .int .i64 s.disp, .int .i64 s.t.off, .int .i64 s.t.del, .int .i64 s.t.disp, .int .i64 s.t.jit, .int .i64 s.t.at_, .int .u8 s.reg] 26) = w0 at *
    go_wp2_with (first | (refine at_load_sv15 rfl _ rfl _ rfl hs rfl ?_))
    (with_reducible refine (c1 _).mono ?_)
    rintro e w1 ⟨rfl, hw⟩
    replace hs := kept hs hw
    replace B := B.trans (hw.mono B.size)
    clear hw
    have lw_hp : w1.heap.size < (w1.alloc (.cells #[.int .i64 p.step, .int .i64 p.watch, .int .i64 p.panic, .int .i64 p.maxrate, .int .i64 p.phi, .int .i64 p.maxdist, .int .i64 p.gate, .int .i64 p.minpoll, .int .i64 p.maxpoll, .int .i64 p.burst, .int .i64 p.minsane, .int .i64 p.minleft] 28)).heap.size := by simp
    replace hs := laid (.cells #[.int .i64 p.step, .int .i64 p.watch, .int .i64 p.panic, .int .i64 p.maxrate, .int .i64 p.phi, .int .i64 p.maxdist, .int .i64 p.gate, .int .i64 p.minpoll, .int .i64 p.maxpoll, .int .i64 p.burst, .int .i64 p.minsane, .int .i64 p.minleft] 28) hs
    have hp := heap_alloc_new w1 (.cells #[.int .i64 p.step, .int .i64 p.watch, .int .i64 p.panic, .int .i64 p.maxrate, .int .i64 p.phi, .int .i64 p.maxdist, .int .i64 p.gate, .int .i64 p.minpoll, .int .i64 p.maxpoll, .int .i64 p.burst, .int .i64 p.minsane, .int .i64 p.minleft] 28)
    replace B := B.alloc B.size (.cells #[.int .i64 p.step, .int .i64 p.watch, .int .i64 p.panic, .int .i64 p.maxrate, .int .i64 p.phi, .int .i64 p.maxdist, .int .i64 p.gate, .int .i64 p.minpoll, .int .i64 p.maxpoll, .int .i64 p.burst, .int .i64 p.minsane, .int .i64 p.minleft] 28)
    go_upto_region 2 with fail
    generalize w1.alloc (.cells #[.int .i64 p.step, .int .i64 p.watch, .int .i64 p.panic, .int .i64 p.maxrate, .int .i64 p.phi, .int .i64 p.maxdist, .int .i64 p.gate, .int .i64 p.minpoll, .int .i64 p.maxpoll, .int .i64 p.burst, .int .i64 p.minsane, .int .i64 p.minleft] 28) = w2 at *
    obtain ⟨s0, s1, s2, s3, s4, s5, s6, s7, s8, s9, s10⟩ := eleven_in hs
    clear hs hp
    rcases hst' with h1 | ⟨h1, h2⟩
    all_goals
      go_wp2_with fail
      (with_reducible refine (c4 _).mono ?_)
      rintro e w3 ⟨rfl, hw⟩
      go_wp2_with fail
      go_ret
      exact ⟨rfl, B.trans (hw.mono B.size)⟩
  · have hst1 : ¬ s.str < 0 := by omega
    have hst2 : ¬ 15 < s.str := by omega
    obtain ⟨k3, hk3⟩ : ∃ k3 : Int, k % 3 = k3 := ⟨_, rfl⟩
    have hk0 : 0 ≤ k3 ∧ k3 < 3 := by omega
    have tm : k.tmod 3 = k3 := by rw [Int.tmod_eq_emod_of_nonneg (by omega)]; exact hk3
    have tt : (Sv.mk s.leap (s.str + 1 + k3) s.ref s.del s.disp s.t s.reg).Typed := ⟨ts.leap, by dsimp only; omega, ts.ref, ts.del, ts.disp, ts.t, ts.reg⟩
    have cd := tdist_any p H.typed s ts at_ (by omega)
    have cs := tspan_any p H.typed s ts at_ (by omega)
    have cm := tmet_any p H.typed s ts at_ (by omega)
    have cmt := tmet_any p H.typed _ tt at_ (by omega)
    have cdt := tdist_any p H.typed _ tt at_ (by omega)
    have edt : distI p (Sv.mk s.leap (s.str + 1 + k3) s.ref s.del s.disp s.t s.reg) at_ = distI p s at_ := rfl
    have mm := met_mono (p := p) (by omega) (s := s) (u := Sv.mk s.leap (s.str + 1 + k3) s.ref s.del s.disp s.t s.reg) at_ (by dsimp only; omega) edt
    rw [edt] at cdt
    have sw := span_wide p s at_
    have hmo := fun ts t => run_max15 s.t.off (-9223372036854775807) _ rfl ts t
    have toff := ts.t.off
    have hO : s.t.off = max s.t.off (-9223372036854775807) ∨ max s.t.off (-9223372036854775807) = -9223372036854775807 := by omega
    generalize metI p (Sv.mk s.leap (s.str + 1 + k3) s.ref s.del s.disp s.t s.reg) at_ = MT at *
    generalize metI p s at_ = MS at *
    have mmb : decide (MT < MS) = false := by simp; omega
    generalize distI p s at_ = D at *
    generalize lowI p s at_ = L at *
    generalize highI p s at_ = G at *
    obtain ⟨O, hOO⟩ : ∃ O, max s.t.off (-9223372036854775807) = O := ⟨_, rfl⟩
    rw [hOO] at hmo hO
    have SW : Hid (-2305843009213693952 < D → D < 2305843009213693952 → -2305843009213693952 < O → O < 2305843009213693952 → G - L = 2 * D ∧ L + D = O) := Lib.hid (fun h1 h2 h3 h4 => by
      rcases hO with e | e
      · have := sw h1 h2 (by omega) (by omega)
        rw [e] at this
        exact this
      · omega)
    have hat : IntKind.i64.wrap at_ = at_ := IntWalk.i64_in _ (by omega)
    unfold Pm.val Sv.val at *
    dsimp only at cmt cdt
    have M := Lib.hid hmo
    have MM := Lib.hid (And.intro mmb hat)
    clear hk3 edt mm mmb sw hO hOO hd0 H tt ts hmo hat
    go_enter Try.func5, Try.ntmps5
    go_wp2_with fail
    generalize w.alloc (.cells #[.int .i64 s.leap, .int .i64 s.str, .int .u32 s.ref, .int .i64 s.del, .int .i64 s.disp, .int .i64 s.t.off, .int .i64 s.t.del, .int .i64 s.t.disp, .int .i64 s.t.jit, .int .i64 s.t.at_, .int .u8 s.reg] 26) = w0 at *
    go_wp2_with (first | (refine at_load_sv15 rfl _ rfl _ rfl hs rfl ?_))
    (with_reducible refine (c1 _).mono ?_)
    rintro e w1 ⟨rfl, hw⟩
    replace hs := kept hs hw
    replace B := B.trans (hw.mono B.size)
    clear hw
    have lw_hp : w1.heap.size < (w1.alloc (.cells #[.int .i64 p.step, .int .i64 p.watch, .int .i64 p.panic, .int .i64 p.maxrate, .int .i64 p.phi, .int .i64 p.maxdist, .int .i64 p.gate, .int .i64 p.minpoll, .int .i64 p.maxpoll, .int .i64 p.burst, .int .i64 p.minsane, .int .i64 p.minleft] 28)).heap.size := by simp
    replace hs := laid (.cells #[.int .i64 p.step, .int .i64 p.watch, .int .i64 p.panic, .int .i64 p.maxrate, .int .i64 p.phi, .int .i64 p.maxdist, .int .i64 p.gate, .int .i64 p.minpoll, .int .i64 p.maxpoll, .int .i64 p.burst, .int .i64 p.minsane, .int .i64 p.minleft] 28) hs
    have hp := heap_alloc_new w1 (.cells #[.int .i64 p.step, .int .i64 p.watch, .int .i64 p.panic, .int .i64 p.maxrate, .int .i64 p.phi, .int .i64 p.maxdist, .int .i64 p.gate, .int .i64 p.minpoll, .int .i64 p.maxpoll, .int .i64 p.burst, .int .i64 p.minsane, .int .i64 p.minleft] 28)
    replace B := B.alloc B.size (.cells #[.int .i64 p.step, .int .i64 p.watch, .int .i64 p.panic, .int .i64 p.maxrate, .int .i64 p.phi, .int .i64 p.maxdist, .int .i64 p.gate, .int .i64 p.minpoll, .int .i64 p.maxpoll, .int .i64 p.burst, .int .i64 p.minsane, .int .i64 p.minleft] 28)
    go_upto_region 2 with fail
    generalize w1.alloc (.cells #[.int .i64 p.step, .int .i64 p.watch, .int .i64 p.panic, .int .i64 p.maxrate, .int .i64 p.phi, .int .i64 p.maxdist, .int .i64 p.gate, .int .i64 p.minpoll, .int .i64 p.maxpoll, .int .i64 p.burst, .int .i64 p.minsane, .int .i64 p.minleft] 28) = w2 at *
    obtain ⟨s0, s1, s2, s3, s4, s5, s6, s7, s8, s9, s10⟩ := eleven_in hs
    go_wp2_with (first | (refine at_load_sv15 rfl _ rfl _ rfl hs rfl ?_) | (refine at_load_pm10 rfl _ rfl _ rfl hp rfl ?_))
    (with_reducible refine (c4 _).mono ?_)
    rintro e w3 ⟨rfl, hw⟩
    replace hs := kept hs hw
    replace hp := kept hp hw
    replace B := B.trans (hw.mono B.size)
    clear hw
    clear s0 s1 s2 s3 s4 s5 s6 s7 s8 s9 s10
    go_wp2_with (first | (refine at_load_sv15 rfl _ rfl _ rfl hs rfl ?_) | (refine at_load_pm10 rfl _ rfl _ rfl hp rfl ?_))
    (with_reducible refine (cd _).mono ?_)
    rintro e w4 ⟨rfl, hw⟩
    replace hs := kept hs hw
    replace hp := kept hp hw
    replace B := B.trans (hw.mono B.size)
    clear hw
    go_wp2_with (first | (refine at_load_sv15 rfl _ rfl _ rfl hs rfl ?_) | (refine at_load_pm10 rfl _ rfl _ rfl hp rfl ?_))
    (with_reducible refine (cs _).mono ?_)
    rintro e w5 ⟨rfl, hw⟩
    replace hs := kept hs hw
    replace hp := kept hp hw
    replace B := B.trans (hw.mono B.size)
    clear hw
    have lw_hx : w5.heap.size < (w5.alloc (.cells #[.int .i64 L, .int .i64 G] 32)).heap.size := by simp
    replace hs := laid (.cells #[.int .i64 L, .int .i64 G] 32) hs
    replace hp := laid (.cells #[.int .i64 L, .int .i64 G] 32) hp
    have hx := heap_alloc_new w5 (.cells #[.int .i64 L, .int .i64 G] 32)
    replace B := B.alloc B.size (.cells #[.int .i64 L, .int .i64 G] 32)
    go_upto_region 6 with fail
    generalize w5.alloc (.cells #[.int .i64 L, .int .i64 G] 32) = w6 at *
    have hs6 := hs
    obtain ⟨s0, s1, s2, s3, s4, s5, s6, s7, s8, s9, s10⟩ := eleven_in hs6
    have lws := (Array.getElem?_eq_some_iff.1 hs6).1
    have lw_ht : w6.heap.size < (w6.alloc (.cells #[.int .i64 s.leap, .int .i64 (s.str + 1 + k3), .int .u32 s.ref, .int .i64 s.del, .int .i64 s.disp, .int .i64 s.t.off, .int .i64 s.t.del, .int .i64 s.t.disp, .int .i64 s.t.jit, .int .i64 s.t.at_, .int .u8 s.reg] 26)).heap.size := by simp
    replace hs := laid (.cells #[.int .i64 s.leap, .int .i64 (s.str + 1 + k3), .int .u32 s.ref, .int .i64 s.del, .int .i64 s.disp, .int .i64 s.t.off, .int .i64 s.t.del, .int .i64 s.t.disp, .int .i64 s.t.jit, .int .i64 s.t.at_, .int .u8 s.reg] 26) hs
    replace hp := laid (.cells #[.int .i64 s.leap, .int .i64 (s.str + 1 + k3), .int .u32 s.ref, .int .i64 s.del, .int .i64 s.disp, .int .i64 s.t.off, .int .i64 s.t.del, .int .i64 s.t.disp, .int .i64 s.t.jit, .int .i64 s.t.at_, .int .u8 s.reg] 26) hp
    replace hx := laid (.cells #[.int .i64 s.leap, .int .i64 (s.str + 1 + k3), .int .u32 s.ref, .int .i64 s.del, .int .i64 s.disp, .int .i64 s.t.off, .int .i64 s.t.del, .int .i64 s.t.disp, .int .i64 s.t.jit, .int .i64 s.t.at_, .int .u8 s.reg] 26) hx
    have ht := heap_alloc_new w6 (.cells #[.int .i64 s.leap, .int .i64 (s.str + 1 + k3), .int .u32 s.ref, .int .i64 s.del, .int .i64 s.disp, .int .i64 s.t.off, .int .i64 s.t.del, .int .i64 s.t.disp, .int .i64 s.t.jit, .int .i64 s.t.at_, .int .u8 s.reg] 26)
    replace B := B.alloc B.size (.cells #[.int .i64 s.leap, .int .i64 (s.str + 1 + k3), .int .u32 s.ref, .int .i64 s.del, .int .i64 s.disp, .int .i64 s.t.off, .int .i64 s.t.del, .int .i64 s.t.disp, .int .i64 s.t.jit, .int .i64 s.t.at_, .int .u8 s.reg] 26)
    have HT := Lib.hid (And.intro hs (And.intro hp (And.intro hx (And.intro ht B))))
    clear hp hx ht B
    go_upto_region 8 with (refine at_load_sv15 rfl _ rfl _ rfl hs6 rfl ?_)
    clear s0 s1 s2 s3 s4 s5 s6 s7 s8 s9 s10 hs6 hs
    obtain ⟨hs, hp, hx, ht, B⟩ := HT.out
    clear HT
    generalize w6.alloc (.cells #[.int .i64 s.leap, .int .i64 (s.str + 1 + k3), .int .u32 s.ref, .int .i64 s.del, .int .i64 s.disp, .int .i64 s.t.off, .int .i64 s.t.del, .int .i64 s.t.disp, .int .i64 s.t.jit, .int .i64 s.t.at_, .int .u8 s.reg] 26) = w7 at *
    obtain ⟨s0, s1, s2, s3, s4, s5, s6, s7, s8, s9, s10⟩ := eleven_in hs
    have hmo := M.out
    go_upto_region 9 with fail
    clear hmo s0 s1 s2 s3 s4 s5 s6 s7 s8 s9 s10
    go_cut [12] (fun v wx => ∃ sm : Bool, v = .bool sm ∧ (sm = true → -2305843009213693952 < D ∧ D < 2305843009213693952 ∧ -2305843009213693952 < O ∧ O < 2305843009213693952) ∧ wx = w7)
    case first =>
      go_wp2_with fail
      all_goals go_meet
      all_goals (refine ⟨_, rfl, fun h => ?_, rfl⟩; first | (cases h; done) | (simp at h; omega))
    case rest =>
      obtain ⟨sm, rfl, hsm, rfl⟩ := hcut
      obtain ⟨mmb, hat⟩ := MM.out
      have HSM := Lib.hid hsm
      go_upto_region 10 with fail
      obtain ⟨s0, s1, s2, s3, s4, s5, s6, s7, s8, s9, s10⟩ := eleven_in hs
      obtain ⟨u0, u1, u2, u3, u4, u5, u6, u7, u8, u9, u10⟩ := eleven_in ht
      obtain ⟨a0, a1, a2, a3, a4, a5, a6, a7, a8, a9, a10, a11⟩ := twelve_atK hp
      have ks0 := cell_regrown s0
      have ks1 := cell_regrown s1
      have ks2 := cell_regrown s2
      have ks3 := cell_regrown s3
      have ks4 := cell_regrown s4
      have ks5 := cell_regrown s5
      have ks6 := cell_regrown s6
      have ks7 := cell_regrown s7
      have ks8 := cell_regrown s8
      have ks9 := cell_regrown s9
      have ks10 := cell_regrown s10
      have ku0 := cell_regrown u0
      have ku1 := cell_regrown u1
      have ku2 := cell_regrown u2
      have ku3 := cell_regrown u3
      have ku4 := cell_regrown u4
      have ku5 := cell_regrown u5
      have ku6 := cell_regrown u6
      have ku7 := cell_regrown u7
      have ku8 := cell_regrown u8
      have ku9 := cell_regrown u9
      have ku10 := cell_regrown u10
      have ka0 := cell_regrown a0
      have ka1 := cell_regrown a1
      have ka2 := cell_regrown a2
      have ka3 := cell_regrown a3
      have ka4 := cell_regrown a4
      have ka5 := cell_regrown a5
      have ka6 := cell_regrown a6
      have ka7 := cell_regrown a7
      have ka8 := cell_regrown a8
      have ka9 := cell_regrown a9
      have ka10 := cell_regrown a10
      have ka11 := cell_regrown a11
      have d0 := fun d os => Calls.regrown_of (cmt (grow (redrawn wc d) os))
      have d1 := fun d os => Calls.regrown_of (cm (grow (redrawn wc d) os))
      have d2 := fun d os => Calls.regrown_of (cdt (grow (redrawn wc d) os))
      clear s0 s1 s2 s3 s4 s5 s6 s7 s8 s9 s10 u0 u1 u2 u3 u4 u5 u6 u7 u8 u9 u10 a0 a1 a2 a3 a4 a5 a6 a7 a8 a9 a10 a11 hs hp ht cm cmt cdt cd cs hsm c1 c4
      refine wp_region_quiet_below (by kernel_rfl) (by kernel_rfl) ?_
      repeat (quiet_step (first | (with_reducible exact d0 _ _) | (with_reducible exact d1 _ _) | (with_reducible exact d2 _ _)))
      refine wpQuiet_nil ?_
      intro w8 hw
      replace hw := below_again hw
      replace hx := kept hx hw
      replace B := B.trans (hw.mono B.size)
      clear ks0 ks1 ks2 ks3 ks4 ks5 ks6 ks7 ks8 ks9 ks10 ku0 ku1 ku2 ku3 ku4 ku5 ku6 ku7 ku8 ku9 ku10 ka0 ka1 ka2 ka3 ka4 ka5 ka6 ka7 ka8 ka9 ka10 ka11 d0 d1 d2 hw mmb hat
      obtain ⟨x0, x1⟩ := two_in15 hx
      have BB := Lib.hid B
      clear hx B
      cases sm
      · go_wp2_with fail
        go_ret
        exact ⟨rfl, BB.out⟩
      · obtain ⟨j1, j2, j3, j4⟩ := HSM.out rfl
        obtain ⟨g1, g2⟩ := SW.out j1 j2 j3 j4
        go_wp2_with fail
        go_ret
        exact ⟨rfl, BB.out⟩
set_option maxRecDepth 100000 in
theorem lifted (os : Os) (started : os.Started) (H : Type) (enc : TypeId × Value → H) :
    ReturnsInHanded {} Try.checked os 5 .any (Rows.rootdSpansSpec.pre6 enc Try.prog Try.f5 Rows.rootdSpansRow.domain false) (Rows.rootdSpansSpec.post enc Try.prog Try.f5 false true false false) := by
  refine returnsInHanded_of_change (C := Try.checked) own started (by kernel_rfl) Try.func5
    (ChangeSpec.witness6 (enc := enc) (C := Try.checked) false ⟨#[], #[.agg #[.int .i64 0, .int .i64 0, .int .u32 0, .int .i64 0, .int .i64 0, .int .i64 0, .int .i64 0, .int .i64 0, .int .i64 0, .int .i64 0, .int .u8 0], .int .u32 0, .int .u8 0], []⟩ 8 (by kernel_rfl) (by kernel_rfl) (by kernel_rfl) (by kernel_rfl)) ?_
  intro W base args ds gs before hval0 hW hcnd _
  have hval : ∀ (j : Nat) t v, Try.f5.params[j]? = some t → args[j]? = some v → Value.okWide Try.prog W .any base t v := hval0
  have hW' := hW
  obtain ⟨p, q, hA0, hV, rfl, hfz, hnd⟩ := hW
  have hA : DataW.TrodAll enc Try.prog W 0 (fun _ => true) true Try.f5.params.toList args.toList ds p := hA0
  rw [Try.params5] at hA hval
  obtain ⟨v0, vs0, d0, ds0, p0, q0, hargs, rfl, rfl, h0, r0⟩ := trodAll_cons hA
  obtain ⟨v1, vs1, d1, ds1, p1, q1, rfl, rfl, rfl, h1, r1⟩ := trodAll_cons r0
  obtain ⟨v2, vs2, d2, ds2, p2, q2, rfl, rfl, rfl, h2, r2⟩ := trodAll_cons r1
  obtain ⟨rfl, rfl, rfl⟩ := trodAll_nil r2
  obtain rfl : args = #[v0, v1, v2] := by cases args; simp_all
  obtain ⟨rfl, rfl⟩ := trodVars_none hV
  have k0 := h0
  have lt0 : ∀ x ∈ p0, x.block < W.heap.size := by obtain ⟨m, hm⟩ := k0; exact DataW.trod_lt m _ _ _ hm
  obtain ⟨a0, rfl, w0⟩ := open_srv (hval 0 26 v0 rfl rfl) h0
  obtain ⟨a1, rfl, rfl, rfl, w1⟩ := open_int Try.underlying22 (hval 1 22 v1 rfl rfl) h1
  obtain ⟨a2, rfl, rfl, rfl, w2⟩ := open_int Try.underlying5 (hval 2 5 v2 rfl rfl) h2
  clear hA0 hval0
  refine (walk a0 a1 a2 W w0 w1 w2).mono fun e W' ⟨he, bel⟩ => ?_
  subst he
  exact ⟨_, rfl, _, _, _, [], _, [], hW', trodAll_mk1 (shut_bool Try.underlying4 _), (trodAll_cons_mk (Below.trod laidOut (by kernel_rfl) (of_decide_eq_true (by kernel_rfl)) k0 bel lt0) (trodAll_cons_mk (shut_int Try.underlying22 w1) (trodAll_cons_mk (shut_int Try.underlying5 w2) trodAll_mk0))), rfl, bel.frame _, fun h => by cases h⟩

theorem over : Rows.rootdSpansRow.holds Try.pinned (OpenSpec.ofChange Rows.rootdSpansSpec) :=
  OpenClaim.holds_of_wide 5 Try.f5 rfl rfl rfl rfl rfl rfl rfl ⟨rfl, rfl, rfl, rfl, rfl⟩ rfl rfl rfl rfl rfl (by kernel_rfl) Try.func5 (by kernel_rfl)
    (of_decide_eq_true (by kernel_rfl)) (by unfold Func.isWrapper; first | (rw [if_pos (by decide +kernel)]; kernel_rfl) | (rw [if_neg (by decide +kernel)]; exact ⟨rfl, rfl⟩))
    (fun os started H enc _ => lifted os started H enc)

theorem proved : Rows.RootdSpansSaid := over
end Go.Proofs.Ytkjecjehphgpjaa.RootdSpans
