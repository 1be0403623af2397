/- Layer 15's reference, walked: how far a server is. -/
import Derived.Test.YtekdablolacgfaaRtB
import Derived.Test.YtekdablolacgfaaFixB
import Derived.Test.YtekdablolacgfaaFixE
import Derived.Test.YtekdablolacgfaaFixF
import Derived.BigQuiet
import Derived.Deep.QuietTactic
import Derived.Lib.QuietBelow
import Derived.Lib.Hide
import Derived.WalkKit
namespace Go.Proofs.Ytekdablolacgfaa.W
open Go.RowKit Go.Sort
set_option linter.unusedVariables false
set_option linter.unusedSimpArgs false
set_option maxRecDepth 100000 in
set_option maxHeartbeats 12800000 in
theorem rdist15_any (p : Pm) (tp : p.Typed) (s : Sv) (ts : s.Typed) (at_ : Int) (a0 : -9223372036854775808 ≤ at_ ∧ at_ ≤ 9223372036854775807) (w : World) :
    Calls Try.prog 37 #[p.val, s.val, .int .i64 at_] w fun e w' => e = .returned (.int .i64 (distI p s at_)) ∧ Below w.heap.size w w' := by
  have hdel := ts.del
  have hdisp := ts.disp
  have htd := ts.t.del
  have htp := ts.t.disp
  have htj := ts.t.jit
  have hta := ts.t.at_
  have hph := tp.phi
  have c1 := radd_any s.del s.t.del hdel.1 hdel.2 htd.1 htd.2
  obtain ⟨x1, e1⟩ : ∃ x, addI s.del s.t.del = x := ⟨_, rfl⟩
  have b1 := addI_range s.del s.t.del
  obtain ⟨x2, e2⟩ : ∃ x, max 21474836 x1 = x := ⟨_, rfl⟩
  rw [e1] at c1 b1
  have c2 := rshift_any x2 (-1) (by omega) (by omega) (by decide) (by decide)
  obtain ⟨x3, e3⟩ : ∃ x, shiftI x2 (-1) = x := ⟨_, rfl⟩
  have b3 : -9223372036854775807 ≤ x3 ∧ x3 ≤ 9223372036854775807 := by
    rw [← e3]
    unfold shiftI
    rw [if_pos (by decide)]
    exact cutI_range _
  rw [e3] at c2
  have c3 := radd_any x3 s.disp (by omega) (by omega) hdisp.1 hdisp.2
  obtain ⟨x4, e4⟩ : ∃ x, addI x3 s.disp = x := ⟨_, rfl⟩
  have b4 := addI_range x3 s.disp
  rw [e4] at c3 b4
  have c4 := radd_any x4 s.t.disp (by omega) (by omega) htp.1 htp.2
  obtain ⟨x5, e5⟩ : ∃ x, addI x4 s.t.disp = x := ⟨_, rfl⟩
  have b5 := addI_range x4 s.t.disp
  rw [e5] at c4 b5
  have c5 := rsub_any at_ s.t.at_ a0.1 a0.2 hta.1 hta.2
  obtain ⟨x6, e6⟩ : ∃ x, subI at_ s.t.at_ = x := ⟨_, rfl⟩
  have b6 := subI_range at_ s.t.at_
  rw [e6] at c5 b6
  obtain ⟨x7, e7⟩ : ∃ x, max 0 x6 = x := ⟨_, rfl⟩
  have c6 := rfmul_any p.phi x7 hph.1 hph.2 (by omega) (by omega)
  obtain ⟨x8, e8⟩ : ∃ x, mulI p.phi x7 = x := ⟨_, rfl⟩
  have b8 := mulI_range' p.phi x7
  rw [e8] at c6 b8
  have c7 := radd_any x5 x8 (by omega) (by omega) (by omega) (by omega)
  obtain ⟨x9, e9⟩ : ∃ x, addI x5 x8 = x := ⟨_, rfl⟩
  have b9 := addI_range x5 x8
  rw [e9] at c7 b9
  have c8 := radd_any x9 s.t.jit (by omega) (by omega) htj.1 htj.2
  have hD : distI p s at_ = addI x9 s.t.jit := by
    unfold distI dist0
    rw [e1, e2, e3, e4, e5, e6, e7, e8, e9]
  rw [hD]
  generalize addI x9 s.t.jit = D at *
  have m1 := fun ts t => run_max15 21474836 x1 x2 e2 ts t
  have m2 := fun ts t => run_max15 0 x6 x7 e7 ts t
  have B := ((Below.refl w.heap.size w).alloc (Nat.le_refl _) (.cells (pmV p) 45)).alloc (by simp) (.cells (svV s) 60)
  have hp : ((w.alloc (.cells (pmV p) 45)).alloc (.cells (svV s) 60)).heap[w.heap.size]? = some (.cells (pmV p) 45 (0, 0)) := laid _ (heap_alloc_new w _)
  have hs : ((w.alloc (.cells (pmV p) 45)).alloc (.cells (svV s) 60)).heap[w.heap.size + 1]? = some (.cells (svV s) 60 (0, 0)) := by
    have := heap_alloc_new (w.alloc (.cells (pmV p) 45)) (.cells (svV s) 60)
    simpa [World.size_alloc] using this
  unfold pmV svV at *
  have HH := Lib.hid (And.intro hp hs)
  have HS := Lib.hid hs
  clear hp hs
  unfold Pm.val Sv.val at *
  clear e1 e2 e3 e4 e5 e6 e7 e8 e9 hD hdel hdisp htd htp htj hta hph b1 b3 b4 b5 b6 b8 b9
  go_enter Try.func37, Try.ntmps37
  go_wp2_with fail
  (with_reducible refine (c1 _).mono ?_)
  rintro e w1 ⟨rfl, rfl⟩
  go_wp2_with fail
  (with_reducible refine (c2 _).mono ?_)
  rintro e w1 ⟨rfl, rfl⟩
  go_wp2_with fail
  (with_reducible refine (c3 _).mono ?_)
  rintro e w1 ⟨rfl, rfl⟩
  go_wp2_with fail
  (with_reducible refine (c4 _).mono ?_)
  rintro e w1 ⟨rfl, rfl⟩
  clear c1 c2 c3 c4 m1
  go_upto_region 4 with fail
  obtain ⟨hp, hs⟩ := HH.out
  clear HH
  generalize ((w.alloc (.cells #[.int .i64 p.step, .int .i64 p.watch, .int .i64 p.panic, .int .i64 p.maxrate, .int .i64 p.phi, .int .i64 p.maxdist, .int .i64 p.gate, .int .i64 p.minpoll, .int .i64 p.maxpoll, .int .i64 p.burst, .int .i64 p.minsane, .int .i64 p.minleft] 45)).alloc (.cells #[.int .i64 s.leap, .int .i64 s.str, .int .u32 s.ref, .int .i64 s.del, .int .i64 s.disp, .int .i64 s.t.off, .int .i64 s.t.del, .int .i64 s.t.disp, .int .i64 s.t.jit, .int .i64 s.t.at_, .int .u8 s.reg] 60)) = w1 at *
  obtain ⟨s0, s1, s2, s3, s4, s5, s6, s7, s8, s9, s10⟩ := eleven_in hs
  obtain ⟨a0', a1, a2, a3, a4, a5, a6, a7, a8, a9, a10, a11⟩ := twelve_atK hp
  have k9 := cell_regrown s9
  have ka4 := cell_regrown a4
  have d5 := fun d os => (Calls.regrown_of ((c5 (grow (redrawn w1 d) os)).mono fun e w' h => And.intro h.1 (h.2 ▸ Below.refl _ _)))
  have d6 := fun d os => (Calls.regrown_of ((c6 (grow (redrawn w1 d) os)).mono fun e w' h => And.intro h.1 (h.2 ▸ Below.refl _ _)))
  have d7 := fun d os => (Calls.regrown_of ((c7 (grow (redrawn w1 d) os)).mono fun e w' h => And.intro h.1 (h.2 ▸ Below.refl _ _)))
  clear s0 s1 s2 s3 s4 s5 s6 s7 s8 s10 a0' a1 a2 a3 a5 a6 a7 a8 a9 a10 a11 s9 a4 hs hp c5 c6 c7
  refine wp_region_quiet_below (by kernel_rfl) (by kernel_rfl) ?_
  repeat (quiet_step (first | (with_reducible exact d5 _ _) | (with_reducible exact d6 _ _) | (with_reducible exact d7 _ _)))
  refine wpQuiet_nil ?_
  intro w2 hw
  replace hw := below_again hw
  clear k9 ka4 d5 d6 d7 m2
  obtain ⟨s0, s1, s2, s3, s4, s5, s6, s7, s8, s9, s10⟩ := eleven_in (kept HS.out hw)
  go_wp2_with fail
  (with_reducible refine (c8 _).mono ?_)
  rintro e w3 ⟨rfl, rfl⟩
  go_wp2_with fail
  go_ret
  exact ⟨rfl, B.trans (hw.mono B.size)⟩
end Go.Proofs.Ytekdablolacgfaa.W
