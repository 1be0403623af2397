/- Layer 13's own code, walked: Age, Move, Span. -/
import Derived.Test.YtlpcoaohgcgkiaaGreatSmC
import Derived.Test.YtlpcoaohgcgkiaaGreatCkD
import Derived.Test.YtlpcoaohgcgkiaaGreatStK
import Derived.Test.YtlpcoaohgcgkiaaGreatStX
import Derived.RegionCalls
import Derived.Deep.RegionHeld3
import Derived.Deep.DeepCutAuto
namespace Go.Proofs.YtlpcoaohgcgkiaaGreat.W
open Go.RowKit Go.Sort
set_option linter.unusedVariables false
set_option linter.unusedSimpArgs false
abbrev smC (s : Smp) : Array Value := #[.int .i64 s.off, .int .i64 s.del, .int .i64 s.disp, .int .i64 s.at_, .int .i64 s.total]
theorem five_at13 {w : World} {p : Nat} {a b c d e : Value} {t : TypeId} (h : w.heap[p]? = some (.cells #[a, b, c, d, e] t (0, 0))) :
    w.cell? ⟨p, 0, none⟩ = some a ∧ w.cell? ⟨p, 1, none⟩ = some b ∧ w.cell? ⟨p, 2, none⟩ = some c ∧ w.cell? ⟨p, 3, none⟩ = some d ∧ w.cell? ⟨p, 4, none⟩ = some e := by
  refine ⟨?_, ?_, ?_, ?_, ?_⟩ <;> simp [World.cell?, h]
theorem run_maxS (a b m : Int) (h : max a b = m) (ts : Array TypeId) (t : TypeId) (w : World) : (Builtin.max_ ts t #[.int .i64 a, .int .i64 b]).run Tryz.prog w = .ok (.int .i64 m) w := by
  subst h
  rcases Int.lt_trichotomy a b with h | rfl | h
  · simp [Builtin.max_, Builtin.max2, show max a b = b by omega, h, show ¬ b < a by omega]
  · simp [Builtin.max_, Builtin.max2]
  · simp [Builtin.max_, Builtin.max2, show max a b = a by omega, h, show ¬ a < b by omega]
theorem run_minS (a b m : Int) (h : min a b = m) (ts : Array TypeId) (t : TypeId) (w : World) : (Builtin.min_ ts t #[.int .i64 a, .int .i64 b]).run Tryz.prog w = .ok (.int .i64 m) w := by
  subst h
  rcases Int.lt_trichotomy a b with h | rfl | h
  · simp [Builtin.min_, Builtin.min2, show min a b = a by omega, h, show ¬ b < a by omega]
  · simp [Builtin.min_, Builtin.min2]
  · simp [Builtin.min_, Builtin.min2, show min a b = b by omega, h, show ¬ a < b by omega]
theorem one_new (w : World) (x : Value) (t : TypeId) : (w.alloc (.cells #[x] t)).cell? ⟨w.heap.size, 0, none⟩ = some x := by
  have h := heap_alloc_new w (.cells #[x] t)
  unfold World.cell?
  rw [h]
  rfl
theorem two_new (w : World) (x y : Value) (t : TypeId) : (w.alloc (.cells #[x, y] t)).cell? ⟨w.heap.size, 0, none⟩ = some x ∧ (w.alloc (.cells #[x, y] t)).cell? ⟨w.heap.size, 1, none⟩ = some y := by
  have h := heap_alloc_new w (.cells #[x, y] t)
  unfold World.cell?
  rw [h]
  exact ⟨rfl, rfl⟩
set_option maxRecDepth 100000 in
set_option maxHeartbeats 6400000 in
theorem sage_any (p : Pm) (t : p.Typed) (s : Smp) (ts : s.Typed) (at_ : Int) (a0 : -9223372036854775808 ≤ at_ ∧ at_ ≤ 9223372036854775807) (w : World) :
    Calls Tryz.prog 12 #[p.val, s.val, .int .i64 at_] w fun e w' => e = .returned (.int .i64 (ageI p s at_)) ∧ Below w.heap.size w w' := by
  have c1 := sub_any at_ s.at_ a0.1 a0.2 ts.at_.1 ts.at_.2
  have r1 := subI_range at_ s.at_
  have m0 : max 0 (subI at_ s.at_) = max (subI at_ s.at_) 0 := by omega
  unfold ageI
  rw [m0]
  obtain ⟨g, hg⟩ : ∃ g, max (subI at_ s.at_) 0 = g := ⟨_, rfl⟩
  have m1 := fun ts t => run_maxS _ _ g hg ts t
  rw [hg]
  have rg : -9223372036854775808 ≤ g ∧ g ≤ 9223372036854775807 := by omega
  have c2 := fmul_any p.phi g t.phi.1 t.phi.2 rg.1 rg.2
  have r2 := mulI_range' p.phi g
  generalize subI at_ s.at_ = d at *
  generalize mulI p.phi g = y at *
  have c3 := fun b cap W => ssum1 s.disp y b cap ts.disp.1 ts.disp.2 (by omega) (by omega) W
  obtain ⟨z, hz⟩ : ∃ z, min (addI s.disp y) 68719476736 = z := ⟨_, rfl⟩
  have m2 := fun ts t => run_minS _ _ z hz ts t
  rw [hz]
  generalize addI s.disp y = q at *
  have hp := laid (.cells (smC s) 29) (heap_alloc_new w (.cells (pmC p) 23))
  have hs := heap_alloc_new (w.alloc (.cells (pmC p) 23)) (.cells (smC s) 29)
  rw [World.size_alloc] at hs
  have hB := ((Below.refl w.heap.size w).alloc (Nat.le_refl _) (.cells (pmC p) 23)).alloc (by simp) (.cells (smC s) 29)
  unfold Pm.val Smp.val
  unfold pmC smC at *
  clear m0 hg hz rg r1 r2 t ts a0
  go_enter Tryz.func12, Tryz.ntmps12
  go_upto_region 1 with fail
  generalize (w.alloc (.cells #[.int .i64 p.step, .int .i64 p.watch, .int .i64 p.panic, .int .i64 p.maxrate, .int .i64 p.phi, .int .i64 p.maxdist, .int .i64 p.gate, .int .i64 p.minpoll, .int .i64 p.maxpoll, .int .i64 p.burst, .int .i64 p.minsane, .int .i64 p.minleft] 23)).alloc (.cells #[.int .i64 s.off, .int .i64 s.del, .int .i64 s.disp, .int .i64 s.at_, .int .i64 s.total] 29) = w1 at *
  obtain ⟨q0, q1, q2, q3, q4, q5, q6, q7, q8, q9, q10, q11⟩ := twelve_atK hp
  obtain ⟨s0, s1, s2, s3, s4⟩ := five_at13 hs
  have k4 := cell_regrown q4
  have k3 := cell_regrown s3
  have d1 := fun d os => (Calls.regrown_of ((c1 (grow (redrawn w1 d) os)).mono fun e w' h => And.intro h.1 (h.2 ▸ Below.refl _ _)))
  have d2 := fun d os => Calls.regrown_of (c2 (grow (redrawn w1 d) os))
  clear q0 q1 q2 q3 q4 q5 q6 q7 q8 q9 q10 q11 s0 s1 s2 s3 s4 c1 c2 hp
  refine wp_region_quiet_below (by kernel_rfl) (by kernel_rfl) ?_
  repeat (quiet_step (first | (with_reducible exact d1 _ _) | (with_reducible exact d2 _ _)))
  refine wpQuiet_nil ?_
  intro w2 hw
  replace hw := quiet_world12 hw
  have hs2 := kept hs hw
  replace hB := hB.trans (hw.mono hB.size)
  clear d1 d2 k4 k3 hw hs
  obtain ⟨s0, s1, s2, s3, s4⟩ := five_at13 hs2
  have k := c3 w2.heap.size 1 (w2.alloc (.cells #[.int .i64 y] 2)) (one_new _ _ _)
  go_wp2_with fail
  (with_reducible refine k.mono ?_)
  rintro e w3 ⟨rfl, rfl⟩
  go_wp2_with fail
  go_ret
  exact ⟨rfl, hB.alloc hB.size _⟩
set_option maxRecDepth 100000 in
set_option maxHeartbeats 6400000 in
theorem smove_any (s : Smp) (ts : s.Typed) (total : Int) (t0 : -9223372036854775808 ≤ total ∧ total ≤ 9223372036854775807) (w : World) :
    Calls Tryz.prog 11 #[s.val, .int .i64 total] w fun e w' => e = .returned (.int .i64 (moveI s total)) ∧ Below w.heap.size w w' := by
  have c1 := sub_any total s.total t0.1 t0.2 ts.total.1 ts.total.2
  have r1 := subI_range total s.total
  have c2 := sub_any s.off (subI total s.total) ts.off.1 ts.off.2 (by omega) (by omega)
  unfold moveI
  generalize subI total s.total = d at *
  generalize subI s.off d = q at *
  have hs := heap_alloc_new w (.cells (smC s) 29)
  have hB := (Below.refl w.heap.size w).alloc (Nat.le_refl _) (.cells (smC s) 29)
  unfold Smp.val
  unfold smC at *
  go_enter Tryz.func11, Tryz.ntmps11
  go_upto_region 1 with fail
  generalize w.alloc (.cells #[.int .i64 s.off, .int .i64 s.del, .int .i64 s.disp, .int .i64 s.at_, .int .i64 s.total] 29) = w1 at *
  obtain ⟨s0, s1, s2, s3, s4⟩ := five_at13 hs
  have k0 := cell_regrown s0
  have k4 := cell_regrown s4
  have d1 := fun d os => (Calls.regrown_of ((c1 (grow (redrawn w1 d) os)).mono fun e w' h => And.intro h.1 (h.2 ▸ Below.refl _ _)))
  have d2 := fun d os => (Calls.regrown_of ((c2 (grow (redrawn w1 d) os)).mono fun e w' h => And.intro h.1 (h.2 ▸ Below.refl _ _)))
  clear s0 s1 s2 s3 s4 c1 c2 hs
  refine wp_region_quiet_below (by kernel_rfl) (by kernel_rfl) ?_
  repeat (quiet_step (first | (with_reducible exact d1 _ _) | (with_reducible exact d2 _ _)))
  refine wpQuiet_nil ?_
  intro w2 hw
  replace hw := quiet_world12 hw
  go_wp2_with fail
  go_ret
  exact ⟨rfl, hB.trans (hw.mono hB.size)⟩
/-- Half, rounded up, as the code has it. -/
theorem half_code (n : Int) (h : -9223372036854775807 ≤ n ∧ n ≤ 9223372036854775807) : subI n (shiftI n (-1)) = halfI n := by
  rw [half_is n h]
  have e : shiftI n (-1) = cutI (n / 2) := by
    unfold shiftI
    rw [if_pos (by decide)]
    rfl
  rw [e, cutI_in (n / 2) (by omega) (by omega)]
  unfold subI
  rw [cutI_in _ (by omega) (by omega)]
  omega
theorem add_neg (a b : Int) : addI a (-b) = subI a b := by unfold addI subI; rw [← Int.sub_eq_add_neg]
set_option maxRecDepth 100000 in
set_option maxHeartbeats 6400000 in
theorem sspan_any (p : Pm) (t : p.Typed) (s : Smp) (ts : s.Typed) (sd : -9223372036854775807 ≤ s.del) (at_ total : Int) (a0 : -9223372036854775808 ≤ at_ ∧ at_ ≤ 9223372036854775807) (t0 : -9223372036854775808 ≤ total ∧ total ≤ 9223372036854775807) (w : World) :
    Calls Tryz.prog 10 #[p.val, s.val, .int .i64 at_, .int .i64 total] w fun e w' => e = .returned (.agg #[.int .i64 (spanL p s at_ total), .int .i64 (spanH p s at_ total)]) ∧ Below w.heap.size w w' := by
  have hh := half_is s.del ⟨sd, ts.del.2⟩
  have hc := half_code s.del ⟨sd, ts.del.2⟩
  have e : shiftI s.del (-1) = s.del / 2 := by
    unfold shiftI
    rw [if_pos (by decide), show (2 : Int) ^ (min (-(-1)) 1000 : Int).toNat = 2 from rfl]
    have := ts.del
    exact cutI_in _ (by omega) (by omega)
  have td := ts.del
  have c1 := shift_any s.del (-1) ts.del.1 ts.del.2 (by decide) (by decide)
  have c2 := sub_any s.del (shiftI s.del (-1)) ts.del.1 ts.del.2 (by omega) (by omega)
  rw [hc] at c2
  have c3 := smove_any s ts total t0
  have c4 := sage_any p t s ts at_ a0
  have r3 : -9223372036854775807 ≤ moveI s total ∧ moveI s total ≤ 9223372036854775807 := subI_range _ _
  have r4 := age_range p s at_
  have rh : -4611686018427387904 ≤ halfI s.del ∧ halfI s.del ≤ 4611686018427387904 := by have := ts.del; omega
  unfold spanL spanH
  generalize halfI s.del = f at *
  generalize moveI s total = m at *
  generalize ageI p s at_ = g at *
  rw [← add_neg, ← add_neg]
  have n1 : IntKind.i64.wrap (-f) = -f := IntWalk.i64_in _ (by omega)
  have n2 : IntKind.i64.wrap (-g) = -g := IntWalk.i64_in _ (by omega)
  have c5 := fun b cap W => ssum2 m (-f) (-g) b cap (by omega) (by omega) (by omega) (by omega) (by omega) (by omega) W
  have c6 := fun b cap W => ssum2 m f g b cap (by omega) (by omega) (by omega) (by omega) (by omega) (by omega) W
  generalize addI (addI m (-f)) (-g) = L at *
  generalize addI (addI m f) g = H at *
  generalize shiftI s.del (-1) = sh at *
  have hp := laid (.cells #[.int .i64 0, .int .i64 0] 40) (laid (.cells (smC s) 29) (heap_alloc_new w (.cells (pmC p) 23)))
  have hs := laid (.cells #[.int .i64 0, .int .i64 0] 40) (heap_alloc_new (w.alloc (.cells (pmC p) 23)) (.cells (smC s) 29))
  have hr := heap_alloc_new ((w.alloc (.cells (pmC p) 23)).alloc (.cells (smC s) 29)) (.cells #[.int .i64 0, .int .i64 0] 40)
  rw [World.size_alloc] at hs
  rw [World.size_alloc, World.size_alloc] at hr
  have hB := (((Below.refl w.heap.size w).alloc (Nat.le_refl _) (.cells (pmC p) 23)).alloc (by simp) (.cells (smC s) 29)).alloc (by simp; omega) (.cells #[.int .i64 0, .int .i64 0] 40)
  unfold Pm.val Smp.val at *
  unfold pmC smC at *
  clear hh hc e rh r3 r4 ts t a0 t0 sd
  go_enter Tryz.func10, Tryz.ntmps10
  go_upto_region 1 with fail
  generalize ((w.alloc (.cells #[.int .i64 p.step, .int .i64 p.watch, .int .i64 p.panic, .int .i64 p.maxrate, .int .i64 p.phi, .int .i64 p.maxdist, .int .i64 p.gate, .int .i64 p.minpoll, .int .i64 p.maxpoll, .int .i64 p.burst, .int .i64 p.minsane, .int .i64 p.minleft] 23)).alloc (.cells #[.int .i64 s.off, .int .i64 s.del, .int .i64 s.disp, .int .i64 s.at_, .int .i64 s.total] 29)).alloc (.cells #[.int .i64 0, .int .i64 0] 40) = w1 at *
  obtain ⟨s0, s1, s2, s3, s4⟩ := five_at13 hs
  have k1 := cell_regrown s1
  have d1 := fun d os => (Calls.regrown_of ((c1 (grow (redrawn w1 d) os)).mono fun e w' h => And.intro h.1 (h.2 ▸ Below.refl _ _)))
  have d2 := fun d os => (Calls.regrown_of ((c2 (grow (redrawn w1 d) os)).mono fun e w' h => And.intro h.1 (h.2 ▸ Below.refl _ _)))
  have HS := Lib.hid (And.intro hp (And.intro hs hr))
  clear s0 s1 s2 s3 s4 c1 c2 hs hp hr
  refine wp_region_quiet_below (by kernel_rfl) (by kernel_rfl) ?_
  repeat (quiet_step (first | (with_reducible exact d1 _ _) | (with_reducible exact d2 _ _)))
  refine wpQuiet_nil ?_
  intro w2 hw
  replace hw := quiet_world12 hw
  replace hB := hB.trans (hw.mono hB.size)
  obtain ⟨hp, hs, hr⟩ := HS.out
  replace hp := kept hp hw
  replace hs := kept hs hw
  replace hr := kept hr hw
  clear d1 d2 k1 hw HS
  go_upto_region 2 with fail
  have HS := Lib.hid (And.intro hr hB)
  obtain ⟨q0, q1, q2, q3, q4, q5, q6, q7, q8, q9, q10, q11⟩ := twelve_atK hp
  obtain ⟨s0, s1, s2, s3, s4⟩ := five_at13 hs
  have k0 := cell_regrown s0
  have k1 := cell_regrown s1
  have k2 := cell_regrown s2
  have k3 := cell_regrown s3
  have k4 := cell_regrown s4
  have l0 := cell_regrown q0
  have l1 := cell_regrown q1
  have l2 := cell_regrown q2
  have l3 := cell_regrown q3
  have l4 := cell_regrown q4
  have l5 := cell_regrown q5
  have l6 := cell_regrown q6
  have l7 := cell_regrown q7
  have l8 := cell_regrown q8
  have l9 := cell_regrown q9
  have l10 := cell_regrown q10
  have l11 := cell_regrown q11
  have d3 := fun d os => Calls.regrown_of (c3 (grow (redrawn w2 d) os))
  have d4 := fun d os => Calls.regrown_of (c4 (grow (redrawn w2 d) os))
  clear q0 q1 q2 q3 q4 q5 q6 q7 q8 q9 q10 q11 s0 s1 s2 s3 s4 c3 c4 hs hp hr hB
  refine wp_region_quiet_below (by kernel_rfl) (by kernel_rfl) ?_
  repeat (quiet_step (first | (with_reducible exact d3 _ _) | (with_reducible exact d4 _ _)))
  refine wpQuiet_nil ?_
  intro w3 hw
  replace hw := quiet_world12 hw
  obtain ⟨hr, hB⟩ := HS.out
  replace hB := hB.trans (hw.mono hB.size)
  replace hr := kept hr hw
  clear d3 d4 k0 k1 k2 k3 k4 l0 l1 l2 l3 l4 l5 l6 l7 l8 l9 l10 l11 hw HS
  obtain ⟨x0, x1⟩ := two_new w3 (.int .i64 (-f)) (.int .i64 (-g)) 2
  have k5 := c5 w3.heap.size 2 (w3.alloc (.cells #[.int .i64 (-f), .int .i64 (-g)] 2)) x0 x1
  have hr2 := laid (.cells #[.int .i64 f, .int .i64 g] 2) (laid (.cells #[.int .i64 (-f), .int .i64 (-g)] 2) hr)
  have hB2 := (hB.alloc hB.size (.cells #[.int .i64 (-f), .int .i64 (-g)] 2)).alloc (by simp; have := hB.size; omega) (.cells #[.int .i64 f, .int .i64 g] 2)
  clear x0 x1 hr hB
  go_wp2_with fail
  (with_reducible refine k5.mono ?_)
  rintro e w4 ⟨rfl, rfl⟩
  generalize w3.alloc (.cells #[.int .i64 (-f), .int .i64 (-g)] 2) = w4 at *
  obtain ⟨x0, x1⟩ := two_new w4 (.int .i64 f) (.int .i64 g) 2
  have k6 := c6 w4.heap.size 2 (w4.alloc (.cells #[.int .i64 f, .int .i64 g] 2)) x0 x1
  clear x0 x1 k5
  go_wp2_with fail
  (with_reducible refine k6.mono ?_)
  rintro e w5 ⟨rfl, rfl⟩
  generalize w4.alloc (.cells #[.int .i64 f, .int .i64 g] 2) = w5 at *
  obtain ⟨x0, x1, x2, x3⟩ := two_thaw hr2
  have hr3 := block_set 1 (.int .i64 H) (block_set 0 (.int .i64 L) hr2)
  have hB3 := (hB2.setCell (p := ⟨w.heap.size + 1 + 1, 0, none⟩) (show w.heap.size ≤ w.heap.size + 1 + 1 by omega) (.int .i64 L)).setCell (p := ⟨w.heap.size + 1 + 1, 1, none⟩) (show w.heap.size ≤ w.heap.size + 1 + 1 by omega) (.int .i64 H)
  simp only [List.setIfInBounds_toArray, List.set_cons_zero, List.set_cons_succ] at hr3
  have HH := Lib.hid (And.intro hr3 hB3)
  clear hr2 hr3 hB2 hB3 k6
  go_wp2_with fail
  obtain ⟨hr3, hB3⟩ := HH.out
  obtain ⟨y0, y1, _, _⟩ := two_thaw hr3
  refine bodyPost_ret (v := .agg #[.int .i64 L, .int .i64 H]) ?_ rfl ⟨rfl, hB3⟩
  simp [results, Tryz.results10, go_sem, y0, y1]
end Go.Proofs.YtlpcoaohgcgkiaaGreat.W
