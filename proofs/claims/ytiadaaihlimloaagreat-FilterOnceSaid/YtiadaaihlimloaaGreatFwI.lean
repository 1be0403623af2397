import Derived.Test.YtiadaaihlimloaaGreatFwG
import Derived.Test.YtiadaaihlimloaaGreatFixD
import Derived.Test.YtiadaaihlimloaaGreatQtB
import Derived.Test.YtiadaaihlimloaaGreatCkD
import Derived.BigQuiet
import Derived.RegionCalls
import Derived.Test.YtiadaaihlimloaaGreatFixB
/- Layer 14's own code, walked: what a filter tells. -/
namespace Go.Proofs.YtiadaaihlimloaaGreat.W
open Go.RowKit Go.Sort
set_option linter.unusedVariables false
set_option linter.unusedSimpArgs false
theorem three_new (w : World) (A B C : Array Value) (ta tb tc : TypeId) (W : World) (h : ((w.alloc (.cells A ta)).alloc (.cells B tb)).alloc (.cells C tc) = W) :
    W.heap[w.heap.size]? = some (.cells A ta (0, 0)) ∧ W.heap[w.heap.size + 1]? = some (.cells B tb (0, 0)) ∧ W.heap[w.heap.size + 1 + 1]? = some (.cells C tc (0, 0)) ∧ Below w.heap.size w W ∧ W.heap.size = w.heap.size + 3 := by
  subst h
  have a1 := heap_alloc_new w (.cells A ta)
  have z1 := World.size_alloc w (.cells A ta)
  have b1 := (Below.refl w.heap.size w).alloc (Nat.le_refl _) (.cells A ta)
  generalize w.alloc (.cells A ta) = w1 at *
  have a2 := heap_alloc_new w1 (.cells B tb)
  have z2 := World.size_alloc w1 (.cells B tb)
  have b2 := b1.alloc (by omega) (.cells B tb)
  have c1 := (Below.heap_alloc w1 (.cells B tb) _ (by omega)).trans a1
  generalize w1.alloc (.cells B tb) = w2 at *
  have a3 := heap_alloc_new w2 (.cells C tc)
  have z3 := World.size_alloc w2 (.cells C tc)
  have b3 := b2.alloc (by omega) (.cells C tc)
  have d1 := (Below.heap_alloc w2 (.cells C tc) _ (by omega)).trans c1
  have d2 := (Below.heap_alloc w2 (.cells C tc) _ (by omega)).trans a2
  rw [z1] at d2
  rw [z2, z1] at a3
  exact ⟨d1, d2, a3, b3, by omega⟩
theorem tellB_nil {f : Fl} (h : f.l = []) : tellB f = false := by unfold tellB; rw [h]; rfl
theorem tellB_some {f : Fl} (h : f.l ≠ []) : tellB f = true := by
  unfold tellB
  cases hf : f.l with
  | nil => exact absurd hf h
  | cons a l => rfl
theorem scat_jit (f : Fl) (own total : Int) : max (powI own) (scatI f total) = jitF (ordS f.l) own total := rfl
set_option maxRecDepth 100000 in
set_option maxHeartbeats 12800000 in
theorem ftell_any (p : Pm) (tp : p.Typed) (f : Fl) (tf : f.Typed) (own at_ total : Int) (o0 : -9223372036854775808 ≤ own ∧ own ≤ 9223372036854775807) (a0 : -9223372036854775808 ≤ at_ ∧ at_ ≤ 9223372036854775807) (t0 : -9223372036854775808 ≤ total ∧ total ≤ 9223372036854775807) (w : World) :
    Calls Tryz.prog 12 #[p.val, f.val, .int .i64 own, .int .i64 at_, .int .i64 total] w fun e w' => e = .returned (.tuple #[(tellT p f own at_ total).val, .bool (tellB f)]) ∧ Below w.heap.size w w' := by
  have cb := fbest_any f tf
  by_cases hl : f.l = []
  · have hT : tellT p f own at_ total = Told.zero := by unfold tellT; rw [if_pos hl]
    have hb := tellB_nil hl
    rw [hT, hb]
    rw [hb] at cb
    unfold Fl.val Pm.val Smp.val at *
    obtain ⟨w3, hw3⟩ : ∃ w3, ((w.alloc (.cells (pmC p) 38)).alloc (.cells f.cells 29)).alloc (.cells #[.int .i64 0, .int .i64 0, .int .i64 0, .int .i64 0, .int .i64 0] 33) = w3 := ⟨_, rfl⟩
    obtain ⟨h1, h2, h3, hB, hz⟩ := three_new _ _ _ _ _ _ _ _ hw3
    replace h2 := rowOf_heap h2
    unfold pmC at hw3
    clear hT hb h1 hl
    go_enter Tryz.func12, Tryz.ntmps12
    go_wp2_with (first | (rw [hw3]) | (refine at_load_fl rfl _ rfl _ rfl _ (by assumption) ?_))
    (with_reducible refine (cb _).mono ?_)
    rintro e w4 ⟨rfl, hB4⟩
    have k3 := (hB4.block _ (by omega)).trans h3
    have hB5 := hB.trans (hB4.mono hB.size)
    have z4 := hB4.size
    obtain ⟨w5, hw5⟩ : ∃ w5, w4.alloc (.cells (smV (bestS f.l)) 26) = w5 := ⟨_, rfl⟩
    have m3 := (Below.heap_alloc w4 (.cells (smV (bestS f.l)) 26) _ (by omega)).trans k3
    have hB6 := hB5.alloc (by omega) (.cells (smV (bestS f.l)) 26)
    rw [hw5] at m3 hB6
    unfold smV at hw5
    obtain ⟨⟨c0, c1, c2, c3, c4⟩, fr⟩ := five_at14 m3
    have hE := Lib.hid (And.intro m3 hB6)
    clear hw3 h2 h3 k3 hB hB4 hB5 m3 hB6 cb
    go_wp2_with (rw [hw5])
    obtain ⟨m3, hB6⟩ := hE.out
    have e3 := put5_at (a := .int .i64 0) (b := .int .i64 0) (c := .int .i64 0) (d := .int .i64 0) (e := .int .i64 0) m3
    have hBf := put5_below hB6 (w.heap.size + 1 + 1) (by omega) (.int .i64 0) (.int .i64 0) (.int .i64 0) (.int .i64 0) (.int .i64 0)
    clear c0 c1 c2 c3 c4 fr
    obtain ⟨⟨c0, c1, c2, c3, c4⟩, _⟩ := five_at14 e3
    unfold put5 at *
    refine bodyPost_ret (v := .tuple #[Told.zero.val, .bool false]) ?_ rfl ⟨rfl, hBf⟩
    simp [results, Tryz.results12, go_sem, c0, c1, c2, c3, c4]
    rfl
  · have hT : tellT p f own at_ total = ⟨moveI (bestS f.l) total, (bestS f.l).del, dispF p (ordS f.l) at_ 8, jitF (ordS f.l) own total, (bestS f.l).at_⟩ := by unfold tellT; rw [if_neg hl]
    have hb := tellB_some hl
    have tb := tf.l _ (best_in hl).1
    rw [hT, hb]
    rw [hb] at cb
    have cm := smove_any (bestS f.l) tb total t0
    have cd := fdisp_any p tp f tf at_ a0
    have cs := fscat_any f tf total t0
    have cp : ∀ w, Calls Tryz.prog 21 #[.int .i64 own] w fun e w' => e = .returned (.int .i64 (powI own)) ∧ w = w' := pow_any own o0.1 o0.2
    have hm := fun ts t => run_maxS (powI own) (scatI f total) (jitF (ordS f.l) own total) (scat_jit f own total) ts t
    unfold Fl.val Pm.val Smp.val Told.val at *
    dsimp only
    generalize moveI (bestS f.l) total = x1 at *
    generalize dispF p (ordS f.l) at_ 8 = x2 at *
    generalize scatI f total = x3 at *
    generalize powI own = x4 at *
    generalize jitF (ordS f.l) own total = x5 at *
    obtain ⟨w3, hw3⟩ : ∃ w3, ((w.alloc (.cells (pmC p) 38)).alloc (.cells f.cells 29)).alloc (.cells #[.int .i64 0, .int .i64 0, .int .i64 0, .int .i64 0, .int .i64 0] 33) = w3 := ⟨_, rfl⟩
    obtain ⟨h1, h2, h3, hB, hz⟩ := three_new _ _ _ _ _ _ _ _ hw3
    replace h2 := rowOf_heap h2
    unfold pmC at hw3
    clear hT hb tf tp tb hl
    go_enter Tryz.func12, Tryz.ntmps12
    go_wp2_with (first | (rw [hw3]) | (refine at_load_fl rfl _ rfl _ rfl _ (by assumption) ?_))
    (with_reducible refine (cb _).mono ?_)
    rintro e w4 ⟨rfl, hB4⟩
    have k1 := (hB4.block _ (by omega)).trans h1
    have k2 := fl_kept h2 hB4
    have k3 := (hB4.block _ (by omega)).trans h3
    have hB5 := hB.trans (hB4.mono hB.size)
    have z4 := hB4.size
    obtain ⟨w5, hw5⟩ : ∃ w5, w4.alloc (.cells (smV (bestS f.l)) 26) = w5 := ⟨_, rfl⟩
    have m1 := (Below.heap_alloc w4 (.cells (smV (bestS f.l)) 26) _ (by omega)).trans k1
    have m2 := fl_kept k2 ((Below.refl _ w4).alloc (Nat.le_refl _) (.cells (smV (bestS f.l)) 26))
    have m3 := (Below.heap_alloc w4 (.cells (smV (bestS f.l)) 26) _ (by omega)).trans k3
    have m4 := heap_alloc_new w4 (.cells (smV (bestS f.l)) 26)
    have hB6 := hB5.alloc (by omega) (.cells (smV (bestS f.l)) 26)
    have z5 := World.size_alloc w4 (.cells (smV (bestS f.l)) 26)
    rw [hw5] at m1 m2 m3 m4 hB6 z5
    unfold smV at hw5 m4
    unfold pmC at m1
    have hE := Lib.hid (And.intro m3 hB6)
    clear hw3 h1 h2 h3 k1 k2 k3 hB hB4 hB5 m3 hB6 cb
    go_wp2_with (rw [hw5])
    clear hw5
    obtain ⟨q0, q1, q2, q3, q4, q5, q6, q7, q8, q9, q10, q11⟩ := twelve_at m1
    obtain ⟨⟨s0, s1, s2, s3, s4⟩, _⟩ := five_at14 m4
    have j0 := cell_regrown q0
    have j1 := cell_regrown q1
    have j2 := cell_regrown q2
    have j3 := cell_regrown q3
    have j4 := cell_regrown q4
    have j5 := cell_regrown q5
    have j6 := cell_regrown q6
    have j7 := cell_regrown q7
    have j8 := cell_regrown q8
    have j9 := cell_regrown q9
    have j10 := cell_regrown q10
    have j11 := cell_regrown q11
    have i0 := cell_regrown s0
    have i1 := cell_regrown s1
    have i2 := cell_regrown s2
    have i3 := cell_regrown s3
    have i4 := cell_regrown s4
    have hC : ∀ w', (∃ p : Regrown, w' = grow (redrawn w5 p.d) p.os) → rowOf w' (w.heap.size + 1) = f.cells := fun w' h => fl_kept m2 (quiet_world12 h)
    have d1 := fun d os => Calls.regrown_of (cm (grow (redrawn w5 d) os))
    have d2 := fun d os => Calls.regrown_of (cd (grow (redrawn w5 d) os))
    have d3 := fun d os => Calls.regrown_of (cs (grow (redrawn w5 d) os))
    have d4 := fun d os => Calls.regrown_of ((cp (grow (redrawn w5 d) os)).mono fun e w' h => And.intro h.1 (h.2 ▸ Below.refl _ _))
    have hl1 : w.heap.size + 1 < w5.heap.size := by omega
    clear q0 q1 q2 q3 q4 q5 q6 q7 q8 q9 q10 q11 s0 s1 s2 s3 s4 cm cd cs cp m1 m4
    refine wp_region_below_tail 18 (by kernel_rfl) (by kernel_rfl) ?_
    simp only [List.take_succ_cons, List.take_zero, List.drop_succ_cons, List.drop_zero]
    repeat (first | (refine wpQuiet_load_fl (by kernel_rfl) _ rfl _ rfl _ hC ?_) | (quiet_step (first | (with_reducible exact d1 _ _) | (with_reducible exact d2 _ _) | (with_reducible exact d3 _ _) | (with_reducible exact d4 _ _))))
    refine wpQuiet_nil ?_
    intro w6 hw
    replace hw := quiet_world12 hw
    obtain ⟨m3, hB6⟩ := hE.out
    have n3 := (hw.block _ (by omega)).trans m3
    have hB7 := hB6.trans (hw.mono hB6.size)
    obtain ⟨⟨c0, c1, c2, c3, c4⟩, fr⟩ := five_at14 n3
    have hF := Lib.hid (And.intro n3 hB7)
    clear j0 j1 j2 j3 j4 j5 j6 j7 j8 j9 j10 j11 i0 i1 i2 i3 i4 hC d1 d2 d3 d4 m2 m3 hB6 n3 hB7 hw hE
    go_wp2_with fail
    obtain ⟨n3, hB7⟩ := hF.out
    have e3 := put5_at (a := .int .i64 x1) (b := .int .i64 (bestS f.l).del) (c := .int .i64 x2) (d := .int .i64 x5) (e := .int .i64 (bestS f.l).at_) n3
    have hBf := put5_below hB7 (w.heap.size + 1 + 1) (by omega) (.int .i64 x1) (.int .i64 (bestS f.l).del) (.int .i64 x2) (.int .i64 x5) (.int .i64 (bestS f.l).at_)
    clear c0 c1 c2 c3 c4 fr
    obtain ⟨⟨c0, c1, c2, c3, c4⟩, _⟩ := five_at14 e3
    unfold put5 at *
    refine bodyPost_ret (v := .tuple #[.agg #[.int .i64 x1, .int .i64 (bestS f.l).del, .int .i64 x2, .int .i64 x5, .int .i64 (bestS f.l).at_], .bool true]) ?_ rfl ⟨rfl, hBf⟩
    simp [results, Tryz.results12, go_sem, c0, c1, c2, c3, c4]
end Go.Proofs.YtiadaaihlimloaaGreat.W

/- Layer 14's own code, walked: whether an offset is far, and soon. -/
namespace Go.Proofs.YtiadaaihlimloaaGreat.W
open Go.RowKit Go.Sort
set_option linter.unusedVariables false
set_option linter.unusedSimpArgs false
theorem used_at {w : World} {b : Nat} {f : Fl} (h : rowOf w b = f.cells) :
    w.cell? ⟨b, 41, none⟩ = some (.bool f.had) ∧ w.cell? ⟨b, 42, none⟩ = some (.int .i64 f.used) ∧ w.cell? ⟨b, 43, none⟩ = some (.int .i64 f.off) ∧ w.cell? ⟨b, 44, none⟩ = some (.int .i64 f.total) ∧ w.cell? ⟨b, 45, none⟩ = some (.int .i64 f.jit) := by
  rw [fl_at h, fl_at h, fl_at h, fl_at h, fl_at h]
  exact ⟨rfl, rfl, rfl, rfl, rfl⟩
set_option maxRecDepth 100000 in
set_option maxHeartbeats 6400000 in
theorem ffar_any (f : Fl) (tf : f.Typed) (off total : Int) (o0 : -9223372036854775808 ≤ off ∧ off ≤ 9223372036854775807) (t0 : -9223372036854775808 ≤ total ∧ total ≤ 9223372036854775807) (w : World) :
    Calls Tryz.prog 14 #[f.val, .int .i64 off, .int .i64 total] w fun e w' => e = .returned (.bool (decide (threeF f < absI (subI off (subI f.off (subI total f.total)))))) ∧ Below w.heap.size w w' := by
  unfold threeF
  have r1 := subI_range total f.total
  have c1 := sub_any total f.total t0.1 t0.2 tf.total.1 tf.total.2
  have r2 := subI_range f.off (subI total f.total)
  have c2 := sub_any f.off (subI total f.total) tf.off.1 tf.off.2 (by omega) (by omega)
  have r3 := subI_range off (subI f.off (subI total f.total))
  have c3 := sub_any off (subI f.off (subI total f.total)) o0.1 o0.2 (by omega) (by omega)
  have c4 := abs_any (subI off (subI f.off (subI total f.total))) (by omega) (by omega)
  have r5 := addI_range f.jit f.jit
  have c5 := add_any f.jit f.jit tf.jit.1 tf.jit.2 tf.jit.1 tf.jit.2
  have c6 := add_any (addI f.jit f.jit) f.jit (by omega) (by omega) tf.jit.1 tf.jit.2
  have hr := fl_new w f
  obtain ⟨u0, u1, u2, u3, u4⟩ := used_at hr
  have hB := (Below.refl w.heap.size w).alloc (Nat.le_refl _) (.cells f.cells 29)
  unfold Fl.val
  generalize subI total f.total = x1 at *
  generalize subI f.off x1 = x2 at *
  generalize subI off x2 = x3 at *
  generalize absI x3 = x4 at *
  generalize addI (addI f.jit f.jit) f.jit = x6 at *
  generalize addI f.jit f.jit = x5 at *
  clear hr tf o0 t0 r1 r2 r3 r5
  go_enter Tryz.func14, Tryz.ntmps14
  go_upto_region 1 with fail
  generalize w.alloc (.cells f.cells 29) = w1 at *
  go_quiet (first | (with_reducible exact quiet_eq (c1 _)) | (with_reducible exact quiet_eq (c2 _)))
  go_upto_region 2 with fail
  have u4' : (w1.drewN nq).cell? ⟨w.heap.size, 45, none⟩ = some (.int .i64 f.jit) := u4
  have hB2 := below_drewN hB nq
  clear u0 u1 u2 u3 u4 hB c1 c2
  generalize w1.drewN nq = w2 at *
  go_quiet (first | (with_reducible exact quiet_eq (c5 _)) | (with_reducible exact quiet_eq (c6 _)))
  have hB3 := below_drewN hB2 nq
  clear u4' hB2 c5 c6
  generalize w2.drewN nq = w3 at *
  go_wp2_with fail
  (with_reducible refine (c3 _).mono ?_)
  rintro e w4 ⟨rfl, rfl⟩
  go_wp2_with fail
  (with_reducible refine (c4 _).mono ?_)
  rintro e w4 ⟨rfl, rfl⟩
  go_wp2_with fail
  go_ret
  exact ⟨rfl, hB3⟩
set_option maxRecDepth 100000 in
set_option maxHeartbeats 6400000 in
theorem fsoon_any (f : Fl) (tf : f.Typed) (poll at_ : Int) (p0 : -9223372036854775808 ≤ poll ∧ poll ≤ 9223372036854775807) (a0 : -9223372036854775808 ≤ at_ ∧ at_ ≤ 9223372036854775807) (w : World) :
    Calls Tryz.prog 15 #[f.val, .int .i64 poll, .int .i64 at_] w fun e w' => e = .returned (.bool (decide (subI at_ f.used < addI (powI poll) (powI poll)))) ∧ Below w.heap.size w w' := by
  have c1 : ∀ w, Calls Tryz.prog 21 #[.int .i64 poll] w fun e w' => e = .returned (.int .i64 (powI poll)) ∧ w = w' := pow_any poll p0.1 p0.2
  have r1 := powI_range poll
  have c2 := sub_any at_ f.used a0.1 a0.2 tf.used.1 tf.used.2
  have c3 := add_any (powI poll) (powI poll) (by omega) r1.2 (by omega) r1.2
  have hr := fl_new w f
  obtain ⟨u0, u1, u2, u3, u4⟩ := used_at hr
  have hB := (Below.refl w.heap.size w).alloc (Nat.le_refl _) (.cells f.cells 29)
  unfold Fl.val
  generalize powI poll = x1 at *
  generalize subI at_ f.used = x2 at *
  generalize addI x1 x1 = x3 at *
  clear hr tf p0 a0 r1
  go_enter Tryz.func15, Tryz.ntmps15
  go_upto_region 1 with fail
  generalize w.alloc (.cells f.cells 29) = w1 at *
  go_wp2_with fail
  (with_reducible refine (c1 _).mono ?_)
  rintro e w2 ⟨rfl, rfl⟩
  go_wp2_with fail
  (with_reducible refine (c2 _).mono ?_)
  rintro e w2 ⟨rfl, rfl⟩
  go_wp2_with fail
  (with_reducible refine (c3 _).mono ?_)
  rintro e w2 ⟨rfl, rfl⟩
  go_wp2_with fail
  go_ret
  exact ⟨rfl, hB⟩
end Go.Proofs.YtiadaaihlimloaaGreat.W

