/- Layer 15: what is standard, and that a server is near; rows of servers. -/
import Derived.Test.YtkjecjehphgpjaaRtC
import Derived.Test.YtkjecjehphgpjaaChecked
import Derived.Test.YtkjecjehphgpjaaFrA
import Derived.Test.YtkjecjehphgpjaaFrB
import Derived.Test.YtkjecjehphgpjaaSmA
import Derived.Test.YtkjecjehphgpjaaRcA
import Derived.Test.YtkjecjehphgpjaaFixD
import Derived.Test.YtkjecjehphgpjaaHdZ
import Derived.Test.YtkjecjehphgpjaaEdA
import Derived.Test.YtkjecjehphgpjaaStX
import Derived.Test.YtkjecjehphgpjaaFixB
import Derived.Test.YtkjecjehphgpjaaQtB
import Derived.Test.YtkjecjehphgpjaaRows
import Derived.Test.YtkjecjehphgpjaaWdefs
import Derived.Test.YtkjecjehphgpjaaFixC
import Derived.Test.YtkjecjehphgpjaaWideA
import Derived.Test.YtkjecjehphgpjaaStK
import Derived.Test.YtkjecjehphgpjaaSlA
import Derived.Test.YtkjecjehphgpjaaPlA
import Derived.Test.YtkjecjehphgpjaaStY
import Derived.Test.YtkjecjehphgpjaaStF
import Derived.Test.YtkjecjehphgpjaaCkY
import Derived.Lib.QuietBelow
import Derived.WalkKit
import Derived.Lib.Hide
import Derived.Deep.DeepCutAuto
import Derived.Deep.RegionWith
import Derived.Shelf.SlSortCmp.Insertion1
import Derived.Sort.WalkB2
import Derived.Sort.WalkB12
import Derived.Deep.LoopGhost
import Derived.Sort.LotA
import Derived.Sort.WalkA
import Derived.Shelf.SlSortCmp.Insertion
import Derived.BigQuiet
import Derived.IntWalk
import Derived.Sort.Defs
import Derived.RegionCalls
import Derived.Deep.RegionHeld3
import Derived.WalkSpells
import Derived.Handy
import Derived.Maps.OwnSet
import Derived.Maps.OwnOps
import Derived.Laws.CopyRow
import Derived.WalkLawsBesides
import Derived.Lib.Zigzag
import Derived.OwnWalk
import Derived.OneCell
import Derived.RegionTactic
import Derived.Laws.CopyOwn
namespace Go.Proofs.Ytkjecjehphgpjaa.W
open Go.RowKit Go.Sort Go.ChangeShapes Go.WideShapes
set_option linter.unusedVariables false
set_option linter.unusedSimpArgs false
set_option maxRecDepth 100000 in
set_option maxHeartbeats 6400000 in
theorem std15_any (w : World) : Calls Try.prog 6 #[] w fun e w' => e = .returned (chkP stdC).val ∧ Below w.heap.size w w' := by
  have c1 := gstd_any
  have c2 := gcheck_any stdC std_typed
  unfold Pm.val at *
  generalize stdC.val = sv at *
  generalize chkP stdC = p at *
  have hA := (Below.refl w.heap.size w).alloc (Nat.le_refl _) (.cells #[.int .i64 0, .int .i64 0, .int .i64 0, .int .i64 0, .int .i64 0, .int .i64 0, .int .i64 0, .int .i64 0, .int .i64 0, .int .i64 0, .int .i64 0, .int .i64 0] 28)
  have hr := heap_alloc_new w (.cells #[.int .i64 0, .int .i64 0, .int .i64 0, .int .i64 0, .int .i64 0, .int .i64 0, .int .i64 0, .int .i64 0, .int .i64 0, .int .i64 0, .int .i64 0, .int .i64 0] 28)
  go_enter Try.func6, Try.ntmps6
  go_wp2_with fail
  generalize w.alloc (.cells #[.int .i64 0, .int .i64 0, .int .i64 0, .int .i64 0, .int .i64 0, .int .i64 0, .int .i64 0, .int .i64 0, .int .i64 0, .int .i64 0, .int .i64 0, .int .i64 0] 28) = w1 at *
  (with_reducible refine (c1 _).mono ?_)
  rintro e w2 ⟨rfl, hB2⟩
  go_wp2_with fail
  (with_reducible refine (c2 _).mono ?_)
  rintro e w3 ⟨rfl, hB3⟩
  have hB13 := hB2.trans (hB3.mono hB2.size)
  have hr3 := (hB13.block _ (Array.getElem?_eq_some_iff.1 hr).1).trans hr
  have hB := hA.trans (hB13.mono hA.size)
  have l3 := (Array.getElem?_eq_some_iff.1 hr3).1
  have hB4 := hB.alloc hB.size (.cells #[.int .i64 p.step, .int .i64 p.watch, .int .i64 p.panic, .int .i64 p.maxrate, .int .i64 p.phi, .int .i64 p.maxdist, .int .i64 p.gate, .int .i64 p.minpoll, .int .i64 p.maxpoll, .int .i64 p.burst, .int .i64 p.minsane, .int .i64 p.minleft] 28)
  have hr4 := (Below.heap_alloc w3 (.cells #[.int .i64 p.step, .int .i64 p.watch, .int .i64 p.panic, .int .i64 p.maxrate, .int .i64 p.phi, .int .i64 p.maxdist, .int .i64 p.gate, .int .i64 p.minpoll, .int .i64 p.maxpoll, .int .i64 p.burst, .int .i64 p.minsane, .int .i64 p.minleft] 28) w.heap.size l3).trans hr3
  have hp4 := heap_alloc_new w3 (.cells #[.int .i64 p.step, .int .i64 p.watch, .int .i64 p.panic, .int .i64 p.maxrate, .int .i64 p.phi, .int .i64 p.maxdist, .int .i64 p.gate, .int .i64 p.minpoll, .int .i64 p.maxpoll, .int .i64 p.burst, .int .i64 p.minsane, .int .i64 p.minleft] 28)
  clear hA hr hB2 hB3 hB13 hr3 hB
  go_upto_region 2 with fail
  generalize w3.alloc (.cells #[.int .i64 p.step, .int .i64 p.watch, .int .i64 p.panic, .int .i64 p.maxrate, .int .i64 p.phi, .int .i64 p.maxdist, .int .i64 p.gate, .int .i64 p.minpoll, .int .i64 p.maxpoll, .int .i64 p.burst, .int .i64 p.minsane, .int .i64 p.minleft] 28) = w4 at *
  have hBf := put12_below (.int .i64 p.step) (.int .i64 p.watch) (.int .i64 p.panic) (.int .i64 p.maxrate) (.int .i64 p.phi) (.int .i64 p.maxdist) (.int .i64 p.gate) (.int .i64 p.minpoll) (.int .i64 p.maxpoll) (.int .i64 p.burst) (.int .i64 p.minsane) (.int .i64 p.minleft) hB4 (Nat.le_refl _)
  have hrf := put12_at (.int .i64 p.step) (.int .i64 p.watch) (.int .i64 p.panic) (.int .i64 p.maxrate) (.int .i64 p.phi) (.int .i64 p.maxdist) (.int .i64 p.gate) (.int .i64 p.minpoll) (.int .i64 p.maxpoll) (.int .i64 p.burst) (.int .i64 p.minsane) (.int .i64 p.minleft) hr4
  have E := Lib.hid (And.intro hrf hBf)
  obtain ⟨r0, r1, r2, r3, r4, r5, r6, r7, r8, r9, r10, r11⟩ := twelve_at hr4
  have fr := twelve_frozen hr4
  obtain ⟨a0, a1, a2, a3, a4, a5, a6, a7, a8, a9, a10, a11⟩ := twelve_at hp4
  clear hr4 hp4 hBf hrf hB4
  unfold put12 at E
  go_wp2_with fail
  obtain ⟨q0, q1, q2, q3, q4, q5, q6, q7, q8, q9, q10, q11⟩ := twelve_at E.out.1
  refine bodyPost_ret (v := .agg #[.int .i64 p.step, .int .i64 p.watch, .int .i64 p.panic, .int .i64 p.maxrate, .int .i64 p.phi, .int .i64 p.maxdist, .int .i64 p.gate, .int .i64 p.minpoll, .int .i64 p.maxpoll, .int .i64 p.burst, .int .i64 p.minsane, .int .i64 p.minleft]) ?_ rfl ?_
  · simp [results, Try.results6, go_sem, q0, q1, q2, q3, q4, q5, q6, q7, q8, q9, q10, q11]
  · exact ⟨rfl, E.out.2⟩
theorem near_typed : Sv.Typed ⟨0, 1, 0, 0, 0, Told.zero, 1⟩ := ⟨by decide, by decide, by decide, by decide, by decide, ⟨by decide, by decide, by decide, by decide, by decide⟩, by decide⟩
theorem near_dist {p : Pm} : distI p ⟨0, 1, 0, 0, 0, Told.zero, 1⟩ 0 = 10737418 := by
  unfold distI
  have e : mulI p.phi (max 0 (subI 0 (⟨0, 1, 0, 0, 0, Told.zero, 1⟩ : Sv).t.at_)) = 0 := by
    rw [show max 0 (subI 0 (⟨0, 1, 0, 0, 0, Told.zero, 1⟩ : Sv).t.at_) = 0 by decide]
    exact mulI_nought _
  rw [e]
  decide
theorem near_fit {p : Pm} (hf : p.phi = 64424) (hd : p.maxdist = 6442450944) : fitE p ⟨0, 1, 0, 0, 0, Told.zero, 1⟩ 0 6 0 = 0 := by
  unfold fitE limI
  rw [near_dist, hf, hd]
  decide
set_option maxRecDepth 100000 in
set_option maxHeartbeats 12800000 in
theorem shown15_any (w : World) : Calls Try.prog 9 #[] w fun e w' => e = .returned (.bool true) ∧ Below w.heap.size w w' := by
  have c1 := std15_any
  have H := std_params
  have hf := std_phi
  have hd := std_dist
  generalize chkP stdC = p at *
  have c2 := tdist_any p H.typed _ near_typed 0 (by decide)
  have c3 := tfit_any p H.typed _ near_typed 0 6 0 (by decide) (by decide) (by decide)
  rw [near_dist] at c2
  rw [near_fit hf hd] at c3
  unfold Pm.val Sv.val Told.zero at *
  dsimp only at *
  clear hf hd H
  have hA := (Below.refl w.heap.size w).alloc (Nat.le_refl _) (.cells #[.int .i64 0, .int .i64 1, .int .u32 0, .int .i64 0, .int .i64 0, .int .i64 0, .int .i64 0, .int .i64 0, .int .i64 0, .int .i64 0, .int .u8 1] 26)
  have hs := heap_alloc_new w (.cells #[.int .i64 0, .int .i64 1, .int .u32 0, .int .i64 0, .int .i64 0, .int .i64 0, .int .i64 0, .int .i64 0, .int .i64 0, .int .i64 0, .int .u8 1] 26)
  go_enter Try.func9, Try.ntmps9
  go_upto_region 2 with fail
  generalize w.alloc (.cells #[.int .i64 0, .int .i64 1, .int .u32 0, .int .i64 0, .int .i64 0, .int .i64 0, .int .i64 0, .int .i64 0, .int .i64 0, .int .i64 0, .int .u8 1] 26) = w1 at *
  obtain ⟨s0, s1, s2, s3, s4, s5, s6, s7, s8, s9, s10⟩ := eleven_in hs
  have k0 := cell_regrown s0
  have k1 := cell_regrown s1
  have k2 := cell_regrown s2
  have k3 := cell_regrown s3
  have k4 := cell_regrown s4
  have k5 := cell_regrown s5
  have k6 := cell_regrown s6
  have k7 := cell_regrown s7
  have k8 := cell_regrown s8
  have k9 := cell_regrown s9
  have k10 := cell_regrown s10
  have d1 := fun d os => Calls.regrown_of (c1 (grow (redrawn w1 d) os))
  have d2 := fun d os => Calls.regrown_of (c2 (grow (redrawn w1 d) os))
  have d3 := fun d os => Calls.regrown_of (c3 (grow (redrawn w1 d) os))
  clear s0 s1 s2 s3 s4 s5 s6 s7 s8 s9 s10 hs c1 c2 c3
  refine wp_region_quiet_below (by kernel_rfl) (by kernel_rfl) ?_
  repeat (quiet_step (first | (with_reducible exact d1 _ _) | (with_reducible exact d2 _ _) | (with_reducible exact d3 _ _)))
  refine wpQuiet_nil ?_
  intro w2 hw
  have hB := below_again hw
  clear k0 k1 k2 k3 k4 k5 k6 k7 k8 k9 k10 d1 d2 d3
  go_wp2_with fail
  go_ret
  exact ⟨rfl, hA.trans (hB.mono hA.size)⟩
end Go.Proofs.Ytkjecjehphgpjaa.W
