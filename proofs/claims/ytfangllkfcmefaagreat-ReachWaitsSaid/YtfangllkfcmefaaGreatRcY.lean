/- Layer 11: what is standard, and that a server answers; a state that came in, opened. -/
import Derived.Test.YtfangllkfcmefaaGreatRcX
import Derived.Test.YtfangllkfcmefaaGreatStY
import Derived.Test.YtfangllkfcmefaaGreatStF
import Derived.Test.YtfangllkfcmefaaGreatQtA
import Derived.Test.YtfangllkfcmefaaGreatQtB
import Derived.WalkKit
import Derived.Lib.Hide
namespace Go.Proofs.YtfangllkfcmefaaGreat.W
open Go.RowKit Go.Sort Go.ChangeShapes Go.WideShapes
set_option linter.unusedVariables false
set_option linter.unusedSimpArgs false
set_option maxRecDepth 100000 in
set_option maxHeartbeats 6400000 in
theorem std11_any (w : World) : Calls Tryz.prog 4 #[] w fun e w' => e = .returned (chkP stdC).val ∧ Below w.heap.size w w' := by
  have c1 := gstd_any
  have c2 := gcheck_any stdC std_typed
  unfold Pm.val at *
  generalize stdC.val = sv at *
  generalize chkP stdC = p at *
  have hA := (Below.refl w.heap.size w).alloc (Nat.le_refl _) (.cells #[.int .i64 0, .int .i64 0, .int .i64 0, .int .i64 0, .int .i64 0, .int .i64 0, .int .i64 0, .int .i64 0, .int .i64 0, .int .i64 0, .int .i64 0, .int .i64 0] 24)
  have hr := heap_alloc_new w (.cells #[.int .i64 0, .int .i64 0, .int .i64 0, .int .i64 0, .int .i64 0, .int .i64 0, .int .i64 0, .int .i64 0, .int .i64 0, .int .i64 0, .int .i64 0, .int .i64 0] 24)
  go_enter Tryz.func4, Tryz.ntmps4
  go_wp2_with fail
  generalize w.alloc (.cells #[.int .i64 0, .int .i64 0, .int .i64 0, .int .i64 0, .int .i64 0, .int .i64 0, .int .i64 0, .int .i64 0, .int .i64 0, .int .i64 0, .int .i64 0, .int .i64 0] 24) = w1 at *
  (with_reducible refine (c1 _).mono ?_)
  rintro e w2 ⟨rfl, hB2⟩
  go_wp2_with fail
  (with_reducible refine (c2 _).mono ?_)
  rintro e w3 ⟨rfl, hB3⟩
  have hB13 := hB2.trans (hB3.mono hB2.size)
  have hr3 := (hB13.block _ (Array.getElem?_eq_some_iff.1 hr).1).trans hr
  have hB := hA.trans (hB13.mono hA.size)
  have l3 := (Array.getElem?_eq_some_iff.1 hr3).1
  have hB4 := hB.alloc hB.size (.cells #[.int .i64 p.step, .int .i64 p.watch, .int .i64 p.panic, .int .i64 p.maxrate, .int .i64 p.phi, .int .i64 p.maxdist, .int .i64 p.gate, .int .i64 p.minpoll, .int .i64 p.maxpoll, .int .i64 p.burst, .int .i64 p.minsane, .int .i64 p.minleft] 24)
  have hr4 := (Below.heap_alloc w3 (.cells #[.int .i64 p.step, .int .i64 p.watch, .int .i64 p.panic, .int .i64 p.maxrate, .int .i64 p.phi, .int .i64 p.maxdist, .int .i64 p.gate, .int .i64 p.minpoll, .int .i64 p.maxpoll, .int .i64 p.burst, .int .i64 p.minsane, .int .i64 p.minleft] 24) w.heap.size l3).trans hr3
  have hp4 := heap_alloc_new w3 (.cells #[.int .i64 p.step, .int .i64 p.watch, .int .i64 p.panic, .int .i64 p.maxrate, .int .i64 p.phi, .int .i64 p.maxdist, .int .i64 p.gate, .int .i64 p.minpoll, .int .i64 p.maxpoll, .int .i64 p.burst, .int .i64 p.minsane, .int .i64 p.minleft] 24)
  clear hA hr hB2 hB3 hB13 hr3 hB
  go_upto_region 2 with fail
  generalize w3.alloc (.cells #[.int .i64 p.step, .int .i64 p.watch, .int .i64 p.panic, .int .i64 p.maxrate, .int .i64 p.phi, .int .i64 p.maxdist, .int .i64 p.gate, .int .i64 p.minpoll, .int .i64 p.maxpoll, .int .i64 p.burst, .int .i64 p.minsane, .int .i64 p.minleft] 24) = w4 at *
  have hBf := put12_below (.int .i64 p.step) (.int .i64 p.watch) (.int .i64 p.panic) (.int .i64 p.maxrate) (.int .i64 p.phi) (.int .i64 p.maxdist) (.int .i64 p.gate) (.int .i64 p.minpoll) (.int .i64 p.maxpoll) (.int .i64 p.burst) (.int .i64 p.minsane) (.int .i64 p.minleft) hB4 (Nat.le_refl _)
  have hrf := put12_at (.int .i64 p.step) (.int .i64 p.watch) (.int .i64 p.panic) (.int .i64 p.maxrate) (.int .i64 p.phi) (.int .i64 p.maxdist) (.int .i64 p.gate) (.int .i64 p.minpoll) (.int .i64 p.maxpoll) (.int .i64 p.burst) (.int .i64 p.minsane) (.int .i64 p.minleft) hr4
  have E := Lib.hid (And.intro hrf hBf)
  obtain ⟨r0, r1, r2, r3, r4, r5, r6, r7, r8, r9, r10, r11⟩ := twelve_at hr4
  have fr := twelve_frozen hr4
  obtain ⟨a0, a1, a2, a3, a4, a5, a6, a7, a8, a9, a10, a11⟩ := twelve_at hp4
  clear hr4 hp4 hBf hrf hB4
  unfold put12 at E
  go_wp2_with fail
  obtain ⟨q0, q1, q2, q3, q4, q5, q6, q7, q8, q9, q10, q11⟩ := twelve_at E.out.1
  refine bodyPost_ret (v := .agg #[.int .i64 p.step, .int .i64 p.watch, .int .i64 p.panic, .int .i64 p.maxrate, .int .i64 p.phi, .int .i64 p.maxdist, .int .i64 p.gate, .int .i64 p.minpoll, .int .i64 p.maxpoll, .int .i64 p.burst, .int .i64 p.minsane, .int .i64 p.minleft]) ?_ rfl ?_
  · simp [results, Tryz.results4, go_sem, q0, q1, q2, q3, q4, q5, q6, q7, q8, q9, q10, q11]
  · exact ⟨rfl, E.out.2⟩
set_option maxRecDepth 100000 in
set_option maxHeartbeats 6400000 in
theorem shown11_any (w : World) : Calls Tryz.prog 6 #[] w fun e w' => e = .returned (.bool true) ∧ Below w.heap.size w w' := by
  have c1 := std11_any
  have H := std_params
  generalize chkP stdC = p at *
  have e1 : startS p 0 0 = ⟨0, 6, 6, 0, 0⟩ := by
    unfold startS
    rw [H.minpoll, H.burst]
    rfl
  have e2 : heardS p ⟨0, 6, 6, 0, 0⟩ 6 = ⟨1, 6, 6, 0, 0⟩ := by
    unfold heardS
    rw [held_in H (by decide) (by decide)]
    rfl
  have e3 : pollS p ⟨1, 6, 6, 0, 0⟩ = 6 := by
    unfold pollS
    exact held_in H (by decide) (by decide)
  have t0 : Rs.Typed ⟨0, 6, 6, 0, 0⟩ := ⟨by decide, by decide, by decide, by decide, by decide⟩
  have t1 : Rs.Typed ⟨1, 6, 6, 0, 0⟩ := ⟨by decide, by decide, by decide, by decide, by decide⟩
  have c2 := hstart_any p H.typed 0 0 (by decide) (by decide) (by decide) (by decide)
  have c3 := hheard_any p H.typed _ t0 6 (by decide) (by decide)
  have c4 := hans_any _ t1
  have c5 := hdue_any _ t1 0 (by decide) (by decide)
  have c6 := hpoll_any p H.typed _ t1
  rw [e1] at c2
  rw [e2] at c3
  rw [e3] at c6
  rw [show ansI ⟨1, 6, 6, 0, 0⟩ = 1 from rfl] at c4
  rw [show decide ((⟨1, 6, 6, 0, 0⟩ : Rs).next ≤ 0) = true from rfl] at c5
  unfold Pm.val Rs.val at *
  dsimp only at c2 c3 c4 c5 c6
  clear e1 e2 e3 t0 t1 H
  go_enter Tryz.func6, Tryz.ntmps6
  go_wp2_with fail
  (with_reducible refine (c1 _).mono ?_)
  rintro e w1 ⟨rfl, hB1⟩
  have hA := hB1.alloc hB1.size (.cells #[.int .i64 p.step, .int .i64 p.watch, .int .i64 p.panic, .int .i64 p.maxrate, .int .i64 p.phi, .int .i64 p.maxdist, .int .i64 p.gate, .int .i64 p.minpoll, .int .i64 p.maxpoll, .int .i64 p.burst, .int .i64 p.minsane, .int .i64 p.minleft] 24)
  have hp := heap_alloc_new w1 (.cells #[.int .i64 p.step, .int .i64 p.watch, .int .i64 p.panic, .int .i64 p.maxrate, .int .i64 p.phi, .int .i64 p.maxdist, .int .i64 p.gate, .int .i64 p.minpoll, .int .i64 p.maxpoll, .int .i64 p.burst, .int .i64 p.minsane, .int .i64 p.minleft] 24)
  clear hB1
  go_wp2_with fail
  generalize w1.alloc (.cells #[.int .i64 p.step, .int .i64 p.watch, .int .i64 p.panic, .int .i64 p.maxrate, .int .i64 p.phi, .int .i64 p.maxdist, .int .i64 p.gate, .int .i64 p.minpoll, .int .i64 p.maxpoll, .int .i64 p.burst, .int .i64 p.minsane, .int .i64 p.minleft] 24) = w2 at *
  obtain ⟨a0, a1, a2, a3, a4, a5, a6, a7, a8, a9, a10, a11⟩ := twelve_at hp
  have k0 := cell_regrown a0
  have k1 := cell_regrown a1
  have k2 := cell_regrown a2
  have k3 := cell_regrown a3
  have k4 := cell_regrown a4
  have k5 := cell_regrown a5
  have k6 := cell_regrown a6
  have k7 := cell_regrown a7
  have k8 := cell_regrown a8
  have k9 := cell_regrown a9
  have k10 := cell_regrown a10
  have k11 := cell_regrown a11
  have f2 := fun d os => again_of (c2 (grow (redrawn w2 d) os))
  have f3 := fun d os => again_of (c3 (grow (redrawn w2 d) os))
  refine wp_region_var 4 2 (ob := .cells #[.int .u8 0, .int .i64 0, .int .i64 0, .int .i64 0, .int .i64 0] 27 (0, 0)) (by kernel_rfl) (by kernel_rfl) rfl rfl (fun _ => rfl) rfl (by kernel_rfl) (by simp) (fun a v K hK => by go_simp; exact hK) ?_
  simp only [List.take_succ_cons, List.take_zero, List.drop_succ_cons, List.drop_zero]
  repeat (refine wpR_step (fun K hK => ?_); go_simp; first | (refine hK _ ?_; clear hK K) | (apply Exists.intro; refine ⟨fun _ => ?_, hK _ ?_⟩; (first | (with_reducible exact f2 _ _) | (with_reducible exact f3 _ _)); clear hK K))
  refine wpR_nil ⟨by simp, ?_⟩
  intro b v hb1 hv hBv
  have hp3 := (hBv.block _ (Array.getElem?_eq_some_iff.1 hp).1).trans hp
  have hne : w1.heap.size ≠ b := fun e => by
    have := (Array.getElem?_eq_some_iff.1 hp).1
    omega
  have hB3 := hA.trans (hBv.mono hA.size)
  have hwb : w.heap.size ≤ b := Nat.le_trans hA.size hb1
  have hv4 := five_block (.int .u8 1) (.int .i64 6) (.int .i64 6) (.int .i64 0) (.int .i64 0) hv
  have hp4 := (five_far (w := v) (.int .u8 1) (.int .i64 6) (.int .i64 6) (.int .i64 0) (.int .i64 0) hne).trans hp3
  have hB4 := five_below (.int .u8 1) (.int .i64 6) (.int .i64 6) (.int .i64 0) (.int .i64 0) hB3 hwb
  clear f2 f3 k0 k1 k2 k3 k4 k5 k6 k7 k8 k9 k10 k11 a0 a1 a2 a3 a4 a5 a6 a7 a8 a9 a10 a11 hp hA hBv hB3 hp3
  obtain ⟨r0, r1, r2, r3, r4⟩ := five_in hv
  have fr := five_thaw hv
  have E := Lib.hid (And.intro hv4 (And.intro hp4 hB4))
  clear hv hv4 hp4 hB4
  unfold five at E
  go_upto_region 3 with fail
  change Code.wp _ _ _ _ (five v b (.int .u8 1) (.int .i64 6) (.int .i64 6) (.int .i64 0) (.int .i64 0))
  obtain ⟨hv4, hp4, hB4⟩ := E.out
  change (five v b (.int .u8 1) (.int .i64 6) (.int .i64 6) (.int .i64 0) (.int .i64 0)).heap[b]? = _ at hv4
  change (five v b (.int .u8 1) (.int .i64 6) (.int .i64 6) (.int .i64 0) (.int .i64 0)).heap[w1.heap.size]? = _ at hp4
  change Below _ _ (five v b (.int .u8 1) (.int .i64 6) (.int .i64 6) (.int .i64 0) (.int .i64 0)) at hB4
  clear E r0 r1 r2 r3 r4 fr
  generalize five v b (.int .u8 1) (.int .i64 6) (.int .i64 6) (.int .i64 0) (.int .i64 0) = w4 at *
  obtain ⟨s0, s1, s2, s3, s4⟩ := five_in hv4
  obtain ⟨a0, a1, a2, a3, a4, a5, a6, a7, a8, a9, a10, a11⟩ := twelve_at hp4
  go_wp2_with fail
  (with_reducible refine (c4 _).mono ?_)
  rintro e w5 ⟨rfl, hB5⟩
  have hv5 := (hB5.block _ (Array.getElem?_eq_some_iff.1 hv4).1).trans hv4
  have hp5 := (hB5.block _ (Array.getElem?_eq_some_iff.1 hp4).1).trans hp4
  have hB6 := hB4.trans (hB5.mono hB4.size)
  clear s0 s1 s2 s3 s4 a0 a1 a2 a3 a4 a5 a6 a7 a8 a9 a10 a11 hv4 hp4 hB4 hB5
  obtain ⟨s0, s1, s2, s3, s4⟩ := five_in hv5
  go_wp2_with fail
  (with_reducible refine (c5 _).mono ?_)
  rintro e w6 ⟨rfl, hB7⟩
  have hv6 := (hB7.block _ (Array.getElem?_eq_some_iff.1 hv5).1).trans hv5
  have hp6 := (hB7.block _ (Array.getElem?_eq_some_iff.1 hp5).1).trans hp5
  have hB8 := hB6.trans (hB7.mono hB6.size)
  clear s0 s1 s2 s3 s4 hv5 hp5 hB6 hB7
  obtain ⟨s0, s1, s2, s3, s4⟩ := five_in hv6
  obtain ⟨a0, a1, a2, a3, a4, a5, a6, a7, a8, a9, a10, a11⟩ := twelve_at hp6
  go_wp2_with fail
  (with_reducible refine (c6 _).mono ?_)
  rintro e w7 ⟨rfl, hB9⟩
  have hBf := hB8.trans (hB9.mono hB8.size)
  go_wp2_with fail
  go_ret
  exact ⟨rfl, hBf⟩
end Go.Proofs.YtfangllkfcmefaaGreat.W
