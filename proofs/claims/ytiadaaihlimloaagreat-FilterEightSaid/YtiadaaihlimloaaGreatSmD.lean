/- Layer 13's own code, walked: Age, Move, Span. -/
import Derived.Test.YtiadaaihlimloaaGreatSmC
import Derived.Test.YtiadaaihlimloaaGreatCkD
import Derived.Test.YtiadaaihlimloaaGreatStK
import Derived.Test.YtiadaaihlimloaaGreatStX
import Derived.RegionCalls
import Derived.Deep.RegionHeld3
import Derived.Deep.DeepCutAuto
namespace Go.Proofs.YtiadaaihlimloaaGreat.W
open Go.RowKit Go.Sort
set_option linter.unusedVariables false
set_option linter.unusedSimpArgs false
abbrev smC (s : Smp) : Array Value := #[.int .i64 s.off, .int .i64 s.del, .int .i64 s.disp, .int .i64 s.at_, .int .i64 s.total]
theorem five_at13 {w : World} {p : Nat} {a b c d e : Value} {t : TypeId} (h : w.heap[p]? = some (.cells #[a, b, c, d, e] t (0, 0))) :
    w.cell? ⟨p, 0, none⟩ = some a ∧ w.cell? ⟨p, 1, none⟩ = some b ∧ w.cell? ⟨p, 2, none⟩ = some c ∧ w.cell? ⟨p, 3, none⟩ = some d ∧ w.cell? ⟨p, 4, none⟩ = some e := by
  refine ⟨?_, ?_, ?_, ?_, ?_⟩ <;> simp [World.cell?, h]
theorem run_maxS (a b m : Int) (h : max a b = m) (ts : Array TypeId) (t : TypeId) (w : World) : (Builtin.max_ ts t #[.int .i64 a, .int .i64 b]).run Tryz.prog w = .ok (.int .i64 m) w := by
  subst h
  rcases Int.lt_trichotomy a b with h | rfl | h
  · simp [Builtin.max_, Builtin.max2, show max a b = b by omega, h, show ¬ b < a by omega]
  · simp [Builtin.max_, Builtin.max2]
  · simp [Builtin.max_, Builtin.max2, show max a b = a by omega, h, show ¬ a < b by omega]
theorem run_minS (a b m : Int) (h : min a b = m) (ts : Array TypeId) (t : TypeId) (w : World) : (Builtin.min_ ts t #[.int .i64 a, .int .i64 b]).run Tryz.prog w = .ok (.int .i64 m) w := by
  subst h
  rcases Int.lt_trichotomy a b with h | rfl | h
  · simp [Builtin.min_, Builtin.min2, show min a b = a by omega, h, show ¬ b < a by omega]
  · simp [Builtin.min_, Builtin.min2]
  · simp [Builtin.min_, Builtin.min2, show min a b = b by omega, h, show ¬ a < b by omega]
theorem one_new (w : World) (x : Value) (t : TypeId) : (w.alloc (.cells #[x] t)).cell? ⟨w.heap.size, 0, none⟩ = some x := by
  have h := heap_alloc_new w (.cells #[x] t)
  unfold World.cell?
  rw [h]
  rfl
set_option maxRecDepth 100000 in
set_option maxHeartbeats 6400000 in
theorem sage_any (p : Pm) (t : p.Typed) (s : Smp) (ts : s.Typed) (at_ : Int) (a0 : -9223372036854775808 ≤ at_ ∧ at_ ≤ 9223372036854775807) (w : World) :
    Calls Tryz.prog 28 #[p.val, s.val, .int .i64 at_] w fun e w' => e = .returned (.int .i64 (ageI p s at_)) ∧ Below w.heap.size w w' := by
  have c1 := sub_any at_ s.at_ a0.1 a0.2 ts.at_.1 ts.at_.2
  have r1 := subI_range at_ s.at_
  have m0 : max 0 (subI at_ s.at_) = max (subI at_ s.at_) 0 := by omega
  unfold ageI
  rw [m0]
  obtain ⟨g, hg⟩ : ∃ g, max (subI at_ s.at_) 0 = g := ⟨_, rfl⟩
  have m1 := fun ts t => run_maxS _ _ g hg ts t
  rw [hg]
  have rg : -9223372036854775808 ≤ g ∧ g ≤ 9223372036854775807 := by omega
  have c2 := fmul_any p.phi g t.phi.1 t.phi.2 rg.1 rg.2
  have r2 := mulI_range' p.phi g
  generalize subI at_ s.at_ = d at *
  generalize mulI p.phi g = y at *
  have c3 := fun b cap W => ssum1 s.disp y b cap ts.disp.1 ts.disp.2 (by omega) (by omega) W
  obtain ⟨z, hz⟩ : ∃ z, min (addI s.disp y) 68719476736 = z := ⟨_, rfl⟩
  have m2 := fun ts t => run_minS _ _ z hz ts t
  rw [hz]
  generalize addI s.disp y = q at *
  have hp := laid (.cells (smC s) 26) (heap_alloc_new w (.cells (pmC p) 38))
  have hs := heap_alloc_new (w.alloc (.cells (pmC p) 38)) (.cells (smC s) 26)
  rw [World.size_alloc] at hs
  have hB := ((Below.refl w.heap.size w).alloc (Nat.le_refl _) (.cells (pmC p) 38)).alloc (by simp) (.cells (smC s) 26)
  unfold Pm.val Smp.val
  unfold pmC smC at *
  clear m0 hg hz rg r1 r2 t ts a0
  go_enter Tryz.func28, Tryz.ntmps28
  go_upto_region 1 with fail
  generalize (w.alloc (.cells #[.int .i64 p.step, .int .i64 p.watch, .int .i64 p.panic, .int .i64 p.maxrate, .int .i64 p.phi, .int .i64 p.maxdist, .int .i64 p.gate, .int .i64 p.minpoll, .int .i64 p.maxpoll, .int .i64 p.burst, .int .i64 p.minsane, .int .i64 p.minleft] 38)).alloc (.cells #[.int .i64 s.off, .int .i64 s.del, .int .i64 s.disp, .int .i64 s.at_, .int .i64 s.total] 26) = w1 at *
  obtain ⟨q0, q1, q2, q3, q4, q5, q6, q7, q8, q9, q10, q11⟩ := twelve_atK hp
  obtain ⟨s0, s1, s2, s3, s4⟩ := five_at13 hs
  have k4 := cell_regrown q4
  have k3 := cell_regrown s3
  have d1 := fun d os => (Calls.regrown_of ((c1 (grow (redrawn w1 d) os)).mono fun e w' h => And.intro h.1 (h.2 ▸ Below.refl _ _)))
  have d2 := fun d os => Calls.regrown_of (c2 (grow (redrawn w1 d) os))
  clear q0 q1 q2 q3 q4 q5 q6 q7 q8 q9 q10 q11 s0 s1 s2 s3 s4 c1 c2 hp
  refine wp_region_quiet_below (by kernel_rfl) (by kernel_rfl) ?_
  repeat (quiet_step (first | (with_reducible exact d1 _ _) | (with_reducible exact d2 _ _)))
  refine wpQuiet_nil ?_
  intro w2 hw
  replace hw := quiet_world12 hw
  have hs2 := kept hs hw
  replace hB := hB.trans (hw.mono hB.size)
  clear d1 d2 k4 k3 hw hs
  obtain ⟨s0, s1, s2, s3, s4⟩ := five_at13 hs2
  have k := c3 w2.heap.size 1 (w2.alloc (.cells #[.int .i64 y] 2)) (one_new _ _ _)
  go_wp2_with fail
  (with_reducible refine k.mono ?_)
  rintro e w3 ⟨rfl, rfl⟩
  go_wp2_with fail
  go_ret
  exact ⟨rfl, hB.alloc hB.size _⟩
set_option maxRecDepth 100000 in
set_option maxHeartbeats 6400000 in
theorem smove_any (s : Smp) (ts : s.Typed) (total : Int) (t0 : -9223372036854775808 ≤ total ∧ total ≤ 9223372036854775807) (w : World) :
    Calls Tryz.prog 19 #[s.val, .int .i64 total] w fun e w' => e = .returned (.int .i64 (moveI s total)) ∧ Below w.heap.size w w' := by
  have c1 := sub_any total s.total t0.1 t0.2 ts.total.1 ts.total.2
  have r1 := subI_range total s.total
  have c2 := sub_any s.off (subI total s.total) ts.off.1 ts.off.2 (by omega) (by omega)
  unfold moveI
  generalize subI total s.total = d at *
  generalize subI s.off d = q at *
  have hs := heap_alloc_new w (.cells (smC s) 26)
  have hB := (Below.refl w.heap.size w).alloc (Nat.le_refl _) (.cells (smC s) 26)
  unfold Smp.val
  unfold smC at *
  go_enter Tryz.func19, Tryz.ntmps19
  go_upto_region 1 with fail
  generalize w.alloc (.cells #[.int .i64 s.off, .int .i64 s.del, .int .i64 s.disp, .int .i64 s.at_, .int .i64 s.total] 26) = w1 at *
  obtain ⟨s0, s1, s2, s3, s4⟩ := five_at13 hs
  have k0 := cell_regrown s0
  have k4 := cell_regrown s4
  have d1 := fun d os => (Calls.regrown_of ((c1 (grow (redrawn w1 d) os)).mono fun e w' h => And.intro h.1 (h.2 ▸ Below.refl _ _)))
  have d2 := fun d os => (Calls.regrown_of ((c2 (grow (redrawn w1 d) os)).mono fun e w' h => And.intro h.1 (h.2 ▸ Below.refl _ _)))
  clear s0 s1 s2 s3 s4 c1 c2 hs
  refine wp_region_quiet_below (by kernel_rfl) (by kernel_rfl) ?_
  repeat (quiet_step (first | (with_reducible exact d1 _ _) | (with_reducible exact d2 _ _)))
  refine wpQuiet_nil ?_
  intro w2 hw
  replace hw := quiet_world12 hw
  go_wp2_with fail
  go_ret
  exact ⟨rfl, hB.trans (hw.mono hB.size)⟩
end Go.Proofs.YtiadaaihlimloaaGreat.W
