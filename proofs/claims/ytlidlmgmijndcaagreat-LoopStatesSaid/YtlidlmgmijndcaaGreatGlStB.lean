/- LoopStates, leaf by leaf (two): from each state it goes to those that the document's table has. (Written by wip/genGs.py.) -/
import Derived.Test.YtlidlmgmijndcaaGreatLpZ
import Derived.Test.YtlidlmgmijndcaaGreatLpO
namespace Go.Proofs.YtlidlmgmijndcaaGreat.W
open Go.RowKit Go.Sort Go.ChangeShapes Go.WideShapes
set_option linter.unusedVariables false
set_option linter.unusedSimpArgs false
set_option maxRecDepth 100000 in
set_option maxHeartbeats 12800000 in
theorem st3_hi (p : Pm) (c1 : ∀ W, Calls Tryz.prog 10 #[] W fun e w' => e = .returned p.val ∧ Below W.heap.size W w') (e4 : IntKind.i64.wrap (-p.step) = -p.step) (x1 x2 x3 x4 x5 x6 y1 y2 y3 y4 y5 y6 o g n : Int) (v1 : IntKind.i64.wrap g = g) (v2 : IntKind.i64.wrap (g * 4294967296) = g * 4294967296) (v3 : IntKind.i64.wrap n = n) (f1 : decide (p.step < o) = true)
    (cU : ∀ W, Calls Tryz.prog 12 #[p.val, .agg #[.int .i64 3, .int .i64 0, .int .i64 x2, .int .i64 x3, .int .i64 x4, .int .i64 x5, .int .i64 x6], .int .i64 o, .int .i64 (g * 4294967296), .int .i64 n] W fun e w' => e = .returned (.tuple #[.agg #[.int .i64 2, .int .i64 y1, .int .i64 y2, .int .i64 y3, .int .i64 y4, .int .i64 y5, .int .i64 y6], .int .i64 0, .int .i64 0, .int .i64 0]) ∧ Below W.heap.size W w') (w : World) :
    Calls Tryz.prog 7 #[.agg #[.int .i64 3, .int .i64 x1, .int .i64 x2, .int .i64 x3, .int .i64 x4, .int .i64 x5, .int .i64 x6], .int .i64 o, .int .u16 g, .int .u8 n] w fun e w' => e = .returned (.bool true) ∧ Below w.heap.size w w' := by
  have cs := shown19_any
  unfold Pm.val at *
  obtain ⟨wa, hwa⟩ : ∃ wa, w.alloc (.cells #[.int .i64 3, .int .i64 x1, .int .i64 x2, .int .i64 x3, .int .i64 x4, .int .i64 x5, .int .i64 x6] 28) = wa := ⟨_, rfl⟩
  have ha : wa.heap[w.heap.size]? = some (.cells #[.int .i64 3, .int .i64 x1, .int .i64 x2, .int .i64 x3, .int .i64 x4, .int .i64 x5, .int .i64 x6] 28) := hwa ▸ heap_alloc_new w _
  have hB : Below w.heap.size w wa := hwa ▸ (Below.refl w.heap.size w).alloc (Nat.le_refl _) _
  go_enter Tryz.func7, Tryz.ntmps7
  go_wp2_with (rw [hwa])
  (with_reducible refine (c1 _).mono ?_)
  rintro e w1 ⟨rfl, B⟩
  have k1 := laid (.cells #[.int .i64 p.step, .int .i64 p.watch, .int .i64 p.panic, .int .i64 p.maxrate, .int .i64 p.phi, .int .i64 p.maxdist, .int .i64 p.gate, .int .i64 p.minpoll, .int .i64 p.maxpoll, .int .i64 p.burst, .int .i64 p.minsane, .int .i64 p.minleft] 25) (kept ha B)
  have kp := heap_alloc_new w1 (.cells #[.int .i64 p.step, .int .i64 p.watch, .int .i64 p.panic, .int .i64 p.maxrate, .int .i64 p.phi, .int .i64 p.maxdist, .int .i64 p.gate, .int .i64 p.minpoll, .int .i64 p.maxpoll, .int .i64 p.burst, .int .i64 p.minsane, .int .i64 p.minleft] 25)
  have kB := (hB.trans (B.mono hB.size)).alloc (hB.trans (B.mono hB.size)).size (.cells #[.int .i64 p.step, .int .i64 p.watch, .int .i64 p.panic, .int .i64 p.maxrate, .int .i64 p.phi, .int .i64 p.maxdist, .int .i64 p.gate, .int .i64 p.minpoll, .int .i64 p.maxpoll, .int .i64 p.burst, .int .i64 p.minsane, .int .i64 p.minleft] 25)
  have nb : w.heap.size ≠ w1.heap.size := by have := (Array.getElem?_eq_some_iff.1 (kept ha B)).1; omega
  clear ha hB B hwa c1
  go_upto_region 2 with fail
  generalize w1.alloc (.cells #[.int .i64 p.step, .int .i64 p.watch, .int .i64 p.panic, .int .i64 p.maxrate, .int .i64 p.phi, .int .i64 p.maxdist, .int .i64 p.gate, .int .i64 p.minpoll, .int .i64 p.maxpoll, .int .i64 p.burst, .int .i64 p.minsane, .int .i64 p.minleft] 25) = w2 at *
  generalize w1.heap.size = bp at *
  obtain ⟨s0, s1, s2, s3, s4, s5, s6⟩ := seven_in19 k1
  have HH := Lib.hid (And.intro k1 (And.intro kp kB))
  clear k1 kp kB s1 s2 s3 s4 s5 s6
  go_wp2_with fail
  (with_reducible refine (cs _).mono ?_)
  rintro e w3 ⟨rfl, B⟩
  obtain ⟨h1, h2, h3⟩ := HH.out
  have k1 := kept h1 B
  have kp := kept h2 B
  have kB := h3.trans (B.mono h3.size)
  clear h1 h2 h3 B HH s0 cs
  have m1 := block_set 1 (.int .i64 0) k1
  simp only [List.setIfInBounds_toArray, List.set_cons_zero, List.set_cons_succ] at m1
  have mp := (block_far (w := w3) 1 (.int .i64 0) nb.symm).trans kp
  have mB := kB.setCell (p := ⟨w.heap.size, 1, none⟩) (Nat.le_refl _) (.int .i64 0)
  have th1 := thaw19 k1 1
  obtain ⟨s0, s1, s2, s3, s4, s5, s6⟩ := seven_in19 k1
  have HH := Lib.hid (And.intro m1 (And.intro mp mB))
  clear k1 kp kB m1 mp mB s2 s3 s4 s5 s6
  go_upto_region 5 with fail
  obtain ⟨m1, mp, mB⟩ := HH.out
  clear HH s0 s1 th1
  generalize w3.setCell ⟨w.heap.size, 1, none⟩ (.int .i64 0) = w4 at *
  obtain ⟨s0, s1, s2, s3, s4, s5, s6⟩ := seven_in19 m1
  obtain ⟨n0, n1, n2, n3, n4, n5, n6, n7, n8, n9, n10, n11⟩ := twelve_atK mp
  have HH := Lib.hid (And.intro m1 (And.intro mp mB))
  clear m1 mp mB
  go_wp2_with fail
  (with_reducible refine (cU _).mono ?_)
  rintro e w5 ⟨rfl, B⟩
  obtain ⟨h1, h2, h3⟩ := HH.out
  have k1 := laid (.cells #[.int .i64 2, .int .i64 y1, .int .i64 y2, .int .i64 y3, .int .i64 y4, .int .i64 y5, .int .i64 y6] 28) (kept h1 B)
  have kp := laid (.cells #[.int .i64 2, .int .i64 y1, .int .i64 y2, .int .i64 y3, .int .i64 y4, .int .i64 y5, .int .i64 y6] 28) (kept h2 B)
  have kd := heap_alloc_new w5 (.cells #[.int .i64 2, .int .i64 y1, .int .i64 y2, .int .i64 y3, .int .i64 y4, .int .i64 y5, .int .i64 y6] 28)
  have kB := (h3.trans (B.mono h3.size)).alloc (h3.trans (B.mono h3.size)).size (.cells #[.int .i64 2, .int .i64 y1, .int .i64 y2, .int .i64 y3, .int .i64 y4, .int .i64 y5, .int .i64 y6] 28)
  clear h1 h2 h3 B HH s0 s1 s2 s3 s4 s5 s6 n0 n1 n2 n3 n4 n5 n6 n7 n8 n9 n10 n11 cU
  go_upto_region 6 with fail
  generalize w5.alloc (.cells #[.int .i64 2, .int .i64 y1, .int .i64 y2, .int .i64 y3, .int .i64 y4, .int .i64 y5, .int .i64 y6] 28) = w6 at *
  generalize w5.heap.size = bd at *
  obtain ⟨s0, s1, s2, s3, s4, s5, s6⟩ := seven_in19 k1
  obtain ⟨t0, t1, t2, t3, t4, t5, t6⟩ := seven_in19 kd
  obtain ⟨n0, n1, n2, n3, n4, n5, n6, n7, n8, n9, n10, n11⟩ := twelve_atK kp
  clear k1 kd kp n2 n3 n4 n5 n6 n7 n8 n9 n10 n11
  go_wp2_with fail
  go_ret
  exact ⟨by first | rfl | (simp; done), kB⟩
set_option maxRecDepth 100000 in
set_option maxHeartbeats 12800000 in
theorem st2_hi_early (p : Pm) (c1 : ∀ W, Calls Tryz.prog 10 #[] W fun e w' => e = .returned p.val ∧ Below W.heap.size W w') (e4 : IntKind.i64.wrap (-p.step) = -p.step) (x1 x2 x3 x4 x5 x6 y1 y2 y3 y4 y5 y6 o g n : Int) (v1 : IntKind.i64.wrap g = g) (v2 : IntKind.i64.wrap (g * 4294967296) = g * 4294967296) (v3 : IntKind.i64.wrap n = n) (f1 : decide (p.step < o) = true) (f3 : decide ((g : Int) * 4294967296 < p.watch) = true)
    (cU : ∀ W, Calls Tryz.prog 12 #[p.val, .agg #[.int .i64 2, .int .i64 0, .int .i64 x2, .int .i64 x3, .int .i64 x4, .int .i64 x5, .int .i64 x6], .int .i64 o, .int .i64 (g * 4294967296), .int .i64 n] W fun e w' => e = .returned (.tuple #[.agg #[.int .i64 2, .int .i64 y1, .int .i64 y2, .int .i64 y3, .int .i64 y4, .int .i64 y5, .int .i64 y6], .int .i64 0, .int .i64 0, .int .i64 0]) ∧ Below W.heap.size W w') (w : World) :
    Calls Tryz.prog 7 #[.agg #[.int .i64 2, .int .i64 x1, .int .i64 x2, .int .i64 x3, .int .i64 x4, .int .i64 x5, .int .i64 x6], .int .i64 o, .int .u16 g, .int .u8 n] w fun e w' => e = .returned (.bool true) ∧ Below w.heap.size w w' := by
  have cs := shown19_any
  unfold Pm.val at *
  obtain ⟨wa, hwa⟩ : ∃ wa, w.alloc (.cells #[.int .i64 2, .int .i64 x1, .int .i64 x2, .int .i64 x3, .int .i64 x4, .int .i64 x5, .int .i64 x6] 28) = wa := ⟨_, rfl⟩
  have ha : wa.heap[w.heap.size]? = some (.cells #[.int .i64 2, .int .i64 x1, .int .i64 x2, .int .i64 x3, .int .i64 x4, .int .i64 x5, .int .i64 x6] 28) := hwa ▸ heap_alloc_new w _
  have hB : Below w.heap.size w wa := hwa ▸ (Below.refl w.heap.size w).alloc (Nat.le_refl _) _
  go_enter Tryz.func7, Tryz.ntmps7
  go_wp2_with (rw [hwa])
  (with_reducible refine (c1 _).mono ?_)
  rintro e w1 ⟨rfl, B⟩
  have k1 := laid (.cells #[.int .i64 p.step, .int .i64 p.watch, .int .i64 p.panic, .int .i64 p.maxrate, .int .i64 p.phi, .int .i64 p.maxdist, .int .i64 p.gate, .int .i64 p.minpoll, .int .i64 p.maxpoll, .int .i64 p.burst, .int .i64 p.minsane, .int .i64 p.minleft] 25) (kept ha B)
  have kp := heap_alloc_new w1 (.cells #[.int .i64 p.step, .int .i64 p.watch, .int .i64 p.panic, .int .i64 p.maxrate, .int .i64 p.phi, .int .i64 p.maxdist, .int .i64 p.gate, .int .i64 p.minpoll, .int .i64 p.maxpoll, .int .i64 p.burst, .int .i64 p.minsane, .int .i64 p.minleft] 25)
  have kB := (hB.trans (B.mono hB.size)).alloc (hB.trans (B.mono hB.size)).size (.cells #[.int .i64 p.step, .int .i64 p.watch, .int .i64 p.panic, .int .i64 p.maxrate, .int .i64 p.phi, .int .i64 p.maxdist, .int .i64 p.gate, .int .i64 p.minpoll, .int .i64 p.maxpoll, .int .i64 p.burst, .int .i64 p.minsane, .int .i64 p.minleft] 25)
  have nb : w.heap.size ≠ w1.heap.size := by have := (Array.getElem?_eq_some_iff.1 (kept ha B)).1; omega
  clear ha hB B hwa c1
  go_upto_region 2 with fail
  generalize w1.alloc (.cells #[.int .i64 p.step, .int .i64 p.watch, .int .i64 p.panic, .int .i64 p.maxrate, .int .i64 p.phi, .int .i64 p.maxdist, .int .i64 p.gate, .int .i64 p.minpoll, .int .i64 p.maxpoll, .int .i64 p.burst, .int .i64 p.minsane, .int .i64 p.minleft] 25) = w2 at *
  generalize w1.heap.size = bp at *
  obtain ⟨s0, s1, s2, s3, s4, s5, s6⟩ := seven_in19 k1
  have HH := Lib.hid (And.intro k1 (And.intro kp kB))
  clear k1 kp kB s1 s2 s3 s4 s5 s6
  go_wp2_with fail
  (with_reducible refine (cs _).mono ?_)
  rintro e w3 ⟨rfl, B⟩
  obtain ⟨h1, h2, h3⟩ := HH.out
  have k1 := kept h1 B
  have kp := kept h2 B
  have kB := h3.trans (B.mono h3.size)
  clear h1 h2 h3 B HH s0 cs
  have m1 := block_set 1 (.int .i64 0) k1
  simp only [List.setIfInBounds_toArray, List.set_cons_zero, List.set_cons_succ] at m1
  have mp := (block_far (w := w3) 1 (.int .i64 0) nb.symm).trans kp
  have mB := kB.setCell (p := ⟨w.heap.size, 1, none⟩) (Nat.le_refl _) (.int .i64 0)
  have th1 := thaw19 k1 1
  obtain ⟨s0, s1, s2, s3, s4, s5, s6⟩ := seven_in19 k1
  have HH := Lib.hid (And.intro m1 (And.intro mp mB))
  clear k1 kp kB m1 mp mB s2 s3 s4 s5 s6
  go_upto_region 5 with fail
  obtain ⟨m1, mp, mB⟩ := HH.out
  clear HH s0 s1 th1
  generalize w3.setCell ⟨w.heap.size, 1, none⟩ (.int .i64 0) = w4 at *
  obtain ⟨s0, s1, s2, s3, s4, s5, s6⟩ := seven_in19 m1
  obtain ⟨n0, n1, n2, n3, n4, n5, n6, n7, n8, n9, n10, n11⟩ := twelve_atK mp
  have HH := Lib.hid (And.intro m1 (And.intro mp mB))
  clear m1 mp mB
  go_wp2_with fail
  (with_reducible refine (cU _).mono ?_)
  rintro e w5 ⟨rfl, B⟩
  obtain ⟨h1, h2, h3⟩ := HH.out
  have k1 := laid (.cells #[.int .i64 2, .int .i64 y1, .int .i64 y2, .int .i64 y3, .int .i64 y4, .int .i64 y5, .int .i64 y6] 28) (kept h1 B)
  have kp := laid (.cells #[.int .i64 2, .int .i64 y1, .int .i64 y2, .int .i64 y3, .int .i64 y4, .int .i64 y5, .int .i64 y6] 28) (kept h2 B)
  have kd := heap_alloc_new w5 (.cells #[.int .i64 2, .int .i64 y1, .int .i64 y2, .int .i64 y3, .int .i64 y4, .int .i64 y5, .int .i64 y6] 28)
  have kB := (h3.trans (B.mono h3.size)).alloc (h3.trans (B.mono h3.size)).size (.cells #[.int .i64 2, .int .i64 y1, .int .i64 y2, .int .i64 y3, .int .i64 y4, .int .i64 y5, .int .i64 y6] 28)
  clear h1 h2 h3 B HH s0 s1 s2 s3 s4 s5 s6 n0 n1 n2 n3 n4 n5 n6 n7 n8 n9 n10 n11 cU
  go_upto_region 6 with fail
  generalize w5.alloc (.cells #[.int .i64 2, .int .i64 y1, .int .i64 y2, .int .i64 y3, .int .i64 y4, .int .i64 y5, .int .i64 y6] 28) = w6 at *
  generalize w5.heap.size = bd at *
  obtain ⟨s0, s1, s2, s3, s4, s5, s6⟩ := seven_in19 k1
  obtain ⟨t0, t1, t2, t3, t4, t5, t6⟩ := seven_in19 kd
  obtain ⟨n0, n1, n2, n3, n4, n5, n6, n7, n8, n9, n10, n11⟩ := twelve_atK kp
  clear k1 kd kp n2 n3 n4 n5 n6 n7 n8 n9 n10 n11
  go_wp2_with fail
  go_ret
  exact ⟨by first | rfl | (simp; done), kB⟩
set_option maxRecDepth 100000 in
set_option maxHeartbeats 12800000 in
theorem st2_hi_late (p : Pm) (c1 : ∀ W, Calls Tryz.prog 10 #[] W fun e w' => e = .returned p.val ∧ Below W.heap.size W w') (e4 : IntKind.i64.wrap (-p.step) = -p.step) (x1 x2 x3 x4 x5 x6 y1 y2 y3 y4 y5 o g n : Int) (v1 : IntKind.i64.wrap g = g) (v2 : IntKind.i64.wrap (g * 4294967296) = g * 4294967296) (v3 : IntKind.i64.wrap n = n) (f1 : decide (p.step < o) = true) (f3 : decide ((g : Int) * 4294967296 < p.watch) = false)
    (cU : ∀ W, Calls Tryz.prog 12 #[p.val, .agg #[.int .i64 2, .int .i64 0, .int .i64 x2, .int .i64 x3, .int .i64 x4, .int .i64 x5, .int .i64 x6], .int .i64 o, .int .i64 (g * 4294967296), .int .i64 n] W fun e w' => e = .returned (.tuple #[.agg #[.int .i64 4, .int .i64 y1, .int .i64 y2, .int .i64 y3, .int .i64 y4, .int .i64 y5, .int .i64 0], .int .i64 2, .int .i64 o, .int .i64 0]) ∧ Below W.heap.size W w') (w : World) :
    Calls Tryz.prog 7 #[.agg #[.int .i64 2, .int .i64 x1, .int .i64 x2, .int .i64 x3, .int .i64 x4, .int .i64 x5, .int .i64 x6], .int .i64 o, .int .u16 g, .int .u8 n] w fun e w' => e = .returned (.bool true) ∧ Below w.heap.size w w' := by
  have cs := shown19_any
  unfold Pm.val at *
  obtain ⟨wa, hwa⟩ : ∃ wa, w.alloc (.cells #[.int .i64 2, .int .i64 x1, .int .i64 x2, .int .i64 x3, .int .i64 x4, .int .i64 x5, .int .i64 x6] 28) = wa := ⟨_, rfl⟩
  have ha : wa.heap[w.heap.size]? = some (.cells #[.int .i64 2, .int .i64 x1, .int .i64 x2, .int .i64 x3, .int .i64 x4, .int .i64 x5, .int .i64 x6] 28) := hwa ▸ heap_alloc_new w _
  have hB : Below w.heap.size w wa := hwa ▸ (Below.refl w.heap.size w).alloc (Nat.le_refl _) _
  go_enter Tryz.func7, Tryz.ntmps7
  go_wp2_with (rw [hwa])
  (with_reducible refine (c1 _).mono ?_)
  rintro e w1 ⟨rfl, B⟩
  have k1 := laid (.cells #[.int .i64 p.step, .int .i64 p.watch, .int .i64 p.panic, .int .i64 p.maxrate, .int .i64 p.phi, .int .i64 p.maxdist, .int .i64 p.gate, .int .i64 p.minpoll, .int .i64 p.maxpoll, .int .i64 p.burst, .int .i64 p.minsane, .int .i64 p.minleft] 25) (kept ha B)
  have kp := heap_alloc_new w1 (.cells #[.int .i64 p.step, .int .i64 p.watch, .int .i64 p.panic, .int .i64 p.maxrate, .int .i64 p.phi, .int .i64 p.maxdist, .int .i64 p.gate, .int .i64 p.minpoll, .int .i64 p.maxpoll, .int .i64 p.burst, .int .i64 p.minsane, .int .i64 p.minleft] 25)
  have kB := (hB.trans (B.mono hB.size)).alloc (hB.trans (B.mono hB.size)).size (.cells #[.int .i64 p.step, .int .i64 p.watch, .int .i64 p.panic, .int .i64 p.maxrate, .int .i64 p.phi, .int .i64 p.maxdist, .int .i64 p.gate, .int .i64 p.minpoll, .int .i64 p.maxpoll, .int .i64 p.burst, .int .i64 p.minsane, .int .i64 p.minleft] 25)
  have nb : w.heap.size ≠ w1.heap.size := by have := (Array.getElem?_eq_some_iff.1 (kept ha B)).1; omega
  clear ha hB B hwa c1
  go_upto_region 2 with fail
  generalize w1.alloc (.cells #[.int .i64 p.step, .int .i64 p.watch, .int .i64 p.panic, .int .i64 p.maxrate, .int .i64 p.phi, .int .i64 p.maxdist, .int .i64 p.gate, .int .i64 p.minpoll, .int .i64 p.maxpoll, .int .i64 p.burst, .int .i64 p.minsane, .int .i64 p.minleft] 25) = w2 at *
  generalize w1.heap.size = bp at *
  obtain ⟨s0, s1, s2, s3, s4, s5, s6⟩ := seven_in19 k1
  have HH := Lib.hid (And.intro k1 (And.intro kp kB))
  clear k1 kp kB s1 s2 s3 s4 s5 s6
  go_wp2_with fail
  (with_reducible refine (cs _).mono ?_)
  rintro e w3 ⟨rfl, B⟩
  obtain ⟨h1, h2, h3⟩ := HH.out
  have k1 := kept h1 B
  have kp := kept h2 B
  have kB := h3.trans (B.mono h3.size)
  clear h1 h2 h3 B HH s0 cs
  have m1 := block_set 1 (.int .i64 0) k1
  simp only [List.setIfInBounds_toArray, List.set_cons_zero, List.set_cons_succ] at m1
  have mp := (block_far (w := w3) 1 (.int .i64 0) nb.symm).trans kp
  have mB := kB.setCell (p := ⟨w.heap.size, 1, none⟩) (Nat.le_refl _) (.int .i64 0)
  have th1 := thaw19 k1 1
  obtain ⟨s0, s1, s2, s3, s4, s5, s6⟩ := seven_in19 k1
  have HH := Lib.hid (And.intro m1 (And.intro mp mB))
  clear k1 kp kB m1 mp mB s2 s3 s4 s5 s6
  go_upto_region 5 with fail
  obtain ⟨m1, mp, mB⟩ := HH.out
  clear HH s0 s1 th1
  generalize w3.setCell ⟨w.heap.size, 1, none⟩ (.int .i64 0) = w4 at *
  obtain ⟨s0, s1, s2, s3, s4, s5, s6⟩ := seven_in19 m1
  obtain ⟨n0, n1, n2, n3, n4, n5, n6, n7, n8, n9, n10, n11⟩ := twelve_atK mp
  have HH := Lib.hid (And.intro m1 (And.intro mp mB))
  clear m1 mp mB
  go_wp2_with fail
  (with_reducible refine (cU _).mono ?_)
  rintro e w5 ⟨rfl, B⟩
  obtain ⟨h1, h2, h3⟩ := HH.out
  have k1 := laid (.cells #[.int .i64 4, .int .i64 y1, .int .i64 y2, .int .i64 y3, .int .i64 y4, .int .i64 y5, .int .i64 0] 28) (kept h1 B)
  have kp := laid (.cells #[.int .i64 4, .int .i64 y1, .int .i64 y2, .int .i64 y3, .int .i64 y4, .int .i64 y5, .int .i64 0] 28) (kept h2 B)
  have kd := heap_alloc_new w5 (.cells #[.int .i64 4, .int .i64 y1, .int .i64 y2, .int .i64 y3, .int .i64 y4, .int .i64 y5, .int .i64 0] 28)
  have kB := (h3.trans (B.mono h3.size)).alloc (h3.trans (B.mono h3.size)).size (.cells #[.int .i64 4, .int .i64 y1, .int .i64 y2, .int .i64 y3, .int .i64 y4, .int .i64 y5, .int .i64 0] 28)
  clear h1 h2 h3 B HH s0 s1 s2 s3 s4 s5 s6 n0 n1 n2 n3 n4 n5 n6 n7 n8 n9 n10 n11 cU
  go_upto_region 6 with fail
  generalize w5.alloc (.cells #[.int .i64 4, .int .i64 y1, .int .i64 y2, .int .i64 y3, .int .i64 y4, .int .i64 y5, .int .i64 0] 28) = w6 at *
  generalize w5.heap.size = bd at *
  obtain ⟨s0, s1, s2, s3, s4, s5, s6⟩ := seven_in19 k1
  obtain ⟨t0, t1, t2, t3, t4, t5, t6⟩ := seven_in19 kd
  obtain ⟨n0, n1, n2, n3, n4, n5, n6, n7, n8, n9, n10, n11⟩ := twelve_atK kp
  clear k1 kd kp n2 n3 n4 n5 n6 n7 n8 n9 n10 n11
  go_wp2_with fail
  go_ret
  exact ⟨by first | rfl | (simp; done), kB⟩
set_option maxRecDepth 100000 in
set_option maxHeartbeats 12800000 in
theorem st3_lo (p : Pm) (c1 : ∀ W, Calls Tryz.prog 10 #[] W fun e w' => e = .returned p.val ∧ Below W.heap.size W w') (e4 : IntKind.i64.wrap (-p.step) = -p.step) (x1 x2 x3 x4 x5 x6 y1 y2 y3 y4 y5 y6 o g n : Int) (v1 : IntKind.i64.wrap g = g) (v2 : IntKind.i64.wrap (g * 4294967296) = g * 4294967296) (v3 : IntKind.i64.wrap n = n) (f1 : decide (p.step < o) = false) (f2 : decide (o < -p.step) = true)
    (cU : ∀ W, Calls Tryz.prog 12 #[p.val, .agg #[.int .i64 3, .int .i64 0, .int .i64 x2, .int .i64 x3, .int .i64 x4, .int .i64 x5, .int .i64 x6], .int .i64 o, .int .i64 (g * 4294967296), .int .i64 n] W fun e w' => e = .returned (.tuple #[.agg #[.int .i64 2, .int .i64 y1, .int .i64 y2, .int .i64 y3, .int .i64 y4, .int .i64 y5, .int .i64 y6], .int .i64 0, .int .i64 0, .int .i64 0]) ∧ Below W.heap.size W w') (w : World) :
    Calls Tryz.prog 7 #[.agg #[.int .i64 3, .int .i64 x1, .int .i64 x2, .int .i64 x3, .int .i64 x4, .int .i64 x5, .int .i64 x6], .int .i64 o, .int .u16 g, .int .u8 n] w fun e w' => e = .returned (.bool true) ∧ Below w.heap.size w w' := by
  have cs := shown19_any
  unfold Pm.val at *
  obtain ⟨wa, hwa⟩ : ∃ wa, w.alloc (.cells #[.int .i64 3, .int .i64 x1, .int .i64 x2, .int .i64 x3, .int .i64 x4, .int .i64 x5, .int .i64 x6] 28) = wa := ⟨_, rfl⟩
  have ha : wa.heap[w.heap.size]? = some (.cells #[.int .i64 3, .int .i64 x1, .int .i64 x2, .int .i64 x3, .int .i64 x4, .int .i64 x5, .int .i64 x6] 28) := hwa ▸ heap_alloc_new w _
  have hB : Below w.heap.size w wa := hwa ▸ (Below.refl w.heap.size w).alloc (Nat.le_refl _) _
  go_enter Tryz.func7, Tryz.ntmps7
  go_wp2_with (rw [hwa])
  (with_reducible refine (c1 _).mono ?_)
  rintro e w1 ⟨rfl, B⟩
  have k1 := laid (.cells #[.int .i64 p.step, .int .i64 p.watch, .int .i64 p.panic, .int .i64 p.maxrate, .int .i64 p.phi, .int .i64 p.maxdist, .int .i64 p.gate, .int .i64 p.minpoll, .int .i64 p.maxpoll, .int .i64 p.burst, .int .i64 p.minsane, .int .i64 p.minleft] 25) (kept ha B)
  have kp := heap_alloc_new w1 (.cells #[.int .i64 p.step, .int .i64 p.watch, .int .i64 p.panic, .int .i64 p.maxrate, .int .i64 p.phi, .int .i64 p.maxdist, .int .i64 p.gate, .int .i64 p.minpoll, .int .i64 p.maxpoll, .int .i64 p.burst, .int .i64 p.minsane, .int .i64 p.minleft] 25)
  have kB := (hB.trans (B.mono hB.size)).alloc (hB.trans (B.mono hB.size)).size (.cells #[.int .i64 p.step, .int .i64 p.watch, .int .i64 p.panic, .int .i64 p.maxrate, .int .i64 p.phi, .int .i64 p.maxdist, .int .i64 p.gate, .int .i64 p.minpoll, .int .i64 p.maxpoll, .int .i64 p.burst, .int .i64 p.minsane, .int .i64 p.minleft] 25)
  have nb : w.heap.size ≠ w1.heap.size := by have := (Array.getElem?_eq_some_iff.1 (kept ha B)).1; omega
  clear ha hB B hwa c1
  go_upto_region 2 with fail
  generalize w1.alloc (.cells #[.int .i64 p.step, .int .i64 p.watch, .int .i64 p.panic, .int .i64 p.maxrate, .int .i64 p.phi, .int .i64 p.maxdist, .int .i64 p.gate, .int .i64 p.minpoll, .int .i64 p.maxpoll, .int .i64 p.burst, .int .i64 p.minsane, .int .i64 p.minleft] 25) = w2 at *
  generalize w1.heap.size = bp at *
  obtain ⟨s0, s1, s2, s3, s4, s5, s6⟩ := seven_in19 k1
  have HH := Lib.hid (And.intro k1 (And.intro kp kB))
  clear k1 kp kB s1 s2 s3 s4 s5 s6
  go_wp2_with fail
  (with_reducible refine (cs _).mono ?_)
  rintro e w3 ⟨rfl, B⟩
  obtain ⟨h1, h2, h3⟩ := HH.out
  have k1 := kept h1 B
  have kp := kept h2 B
  have kB := h3.trans (B.mono h3.size)
  clear h1 h2 h3 B HH s0 cs
  have m1 := block_set 1 (.int .i64 0) k1
  simp only [List.setIfInBounds_toArray, List.set_cons_zero, List.set_cons_succ] at m1
  have mp := (block_far (w := w3) 1 (.int .i64 0) nb.symm).trans kp
  have mB := kB.setCell (p := ⟨w.heap.size, 1, none⟩) (Nat.le_refl _) (.int .i64 0)
  have th1 := thaw19 k1 1
  obtain ⟨s0, s1, s2, s3, s4, s5, s6⟩ := seven_in19 k1
  have HH := Lib.hid (And.intro m1 (And.intro mp mB))
  clear k1 kp kB m1 mp mB s2 s3 s4 s5 s6
  go_upto_region 5 with fail
  obtain ⟨m1, mp, mB⟩ := HH.out
  clear HH s0 s1 th1
  generalize w3.setCell ⟨w.heap.size, 1, none⟩ (.int .i64 0) = w4 at *
  obtain ⟨s0, s1, s2, s3, s4, s5, s6⟩ := seven_in19 m1
  obtain ⟨n0, n1, n2, n3, n4, n5, n6, n7, n8, n9, n10, n11⟩ := twelve_atK mp
  have HH := Lib.hid (And.intro m1 (And.intro mp mB))
  clear m1 mp mB
  go_wp2_with fail
  (with_reducible refine (cU _).mono ?_)
  rintro e w5 ⟨rfl, B⟩
  obtain ⟨h1, h2, h3⟩ := HH.out
  have k1 := laid (.cells #[.int .i64 2, .int .i64 y1, .int .i64 y2, .int .i64 y3, .int .i64 y4, .int .i64 y5, .int .i64 y6] 28) (kept h1 B)
  have kp := laid (.cells #[.int .i64 2, .int .i64 y1, .int .i64 y2, .int .i64 y3, .int .i64 y4, .int .i64 y5, .int .i64 y6] 28) (kept h2 B)
  have kd := heap_alloc_new w5 (.cells #[.int .i64 2, .int .i64 y1, .int .i64 y2, .int .i64 y3, .int .i64 y4, .int .i64 y5, .int .i64 y6] 28)
  have kB := (h3.trans (B.mono h3.size)).alloc (h3.trans (B.mono h3.size)).size (.cells #[.int .i64 2, .int .i64 y1, .int .i64 y2, .int .i64 y3, .int .i64 y4, .int .i64 y5, .int .i64 y6] 28)
  clear h1 h2 h3 B HH s0 s1 s2 s3 s4 s5 s6 n0 n1 n2 n3 n4 n5 n6 n7 n8 n9 n10 n11 cU
  go_upto_region 6 with fail
  generalize w5.alloc (.cells #[.int .i64 2, .int .i64 y1, .int .i64 y2, .int .i64 y3, .int .i64 y4, .int .i64 y5, .int .i64 y6] 28) = w6 at *
  generalize w5.heap.size = bd at *
  obtain ⟨s0, s1, s2, s3, s4, s5, s6⟩ := seven_in19 k1
  obtain ⟨t0, t1, t2, t3, t4, t5, t6⟩ := seven_in19 kd
  obtain ⟨n0, n1, n2, n3, n4, n5, n6, n7, n8, n9, n10, n11⟩ := twelve_atK kp
  clear k1 kd kp n2 n3 n4 n5 n6 n7 n8 n9 n10 n11
  go_wp2_with fail
  go_ret
  exact ⟨by first | rfl | (simp; done), kB⟩
set_option maxRecDepth 100000 in
set_option maxHeartbeats 12800000 in
theorem st2_lo_early (p : Pm) (c1 : ∀ W, Calls Tryz.prog 10 #[] W fun e w' => e = .returned p.val ∧ Below W.heap.size W w') (e4 : IntKind.i64.wrap (-p.step) = -p.step) (x1 x2 x3 x4 x5 x6 y1 y2 y3 y4 y5 y6 o g n : Int) (v1 : IntKind.i64.wrap g = g) (v2 : IntKind.i64.wrap (g * 4294967296) = g * 4294967296) (v3 : IntKind.i64.wrap n = n) (f1 : decide (p.step < o) = false) (f2 : decide (o < -p.step) = true) (f3 : decide ((g : Int) * 4294967296 < p.watch) = true)
    (cU : ∀ W, Calls Tryz.prog 12 #[p.val, .agg #[.int .i64 2, .int .i64 0, .int .i64 x2, .int .i64 x3, .int .i64 x4, .int .i64 x5, .int .i64 x6], .int .i64 o, .int .i64 (g * 4294967296), .int .i64 n] W fun e w' => e = .returned (.tuple #[.agg #[.int .i64 2, .int .i64 y1, .int .i64 y2, .int .i64 y3, .int .i64 y4, .int .i64 y5, .int .i64 y6], .int .i64 0, .int .i64 0, .int .i64 0]) ∧ Below W.heap.size W w') (w : World) :
    Calls Tryz.prog 7 #[.agg #[.int .i64 2, .int .i64 x1, .int .i64 x2, .int .i64 x3, .int .i64 x4, .int .i64 x5, .int .i64 x6], .int .i64 o, .int .u16 g, .int .u8 n] w fun e w' => e = .returned (.bool true) ∧ Below w.heap.size w w' := by
  have cs := shown19_any
  unfold Pm.val at *
  obtain ⟨wa, hwa⟩ : ∃ wa, w.alloc (.cells #[.int .i64 2, .int .i64 x1, .int .i64 x2, .int .i64 x3, .int .i64 x4, .int .i64 x5, .int .i64 x6] 28) = wa := ⟨_, rfl⟩
  have ha : wa.heap[w.heap.size]? = some (.cells #[.int .i64 2, .int .i64 x1, .int .i64 x2, .int .i64 x3, .int .i64 x4, .int .i64 x5, .int .i64 x6] 28) := hwa ▸ heap_alloc_new w _
  have hB : Below w.heap.size w wa := hwa ▸ (Below.refl w.heap.size w).alloc (Nat.le_refl _) _
  go_enter Tryz.func7, Tryz.ntmps7
  go_wp2_with (rw [hwa])
  (with_reducible refine (c1 _).mono ?_)
  rintro e w1 ⟨rfl, B⟩
  have k1 := laid (.cells #[.int .i64 p.step, .int .i64 p.watch, .int .i64 p.panic, .int .i64 p.maxrate, .int .i64 p.phi, .int .i64 p.maxdist, .int .i64 p.gate, .int .i64 p.minpoll, .int .i64 p.maxpoll, .int .i64 p.burst, .int .i64 p.minsane, .int .i64 p.minleft] 25) (kept ha B)
  have kp := heap_alloc_new w1 (.cells #[.int .i64 p.step, .int .i64 p.watch, .int .i64 p.panic, .int .i64 p.maxrate, .int .i64 p.phi, .int .i64 p.maxdist, .int .i64 p.gate, .int .i64 p.minpoll, .int .i64 p.maxpoll, .int .i64 p.burst, .int .i64 p.minsane, .int .i64 p.minleft] 25)
  have kB := (hB.trans (B.mono hB.size)).alloc (hB.trans (B.mono hB.size)).size (.cells #[.int .i64 p.step, .int .i64 p.watch, .int .i64 p.panic, .int .i64 p.maxrate, .int .i64 p.phi, .int .i64 p.maxdist, .int .i64 p.gate, .int .i64 p.minpoll, .int .i64 p.maxpoll, .int .i64 p.burst, .int .i64 p.minsane, .int .i64 p.minleft] 25)
  have nb : w.heap.size ≠ w1.heap.size := by have := (Array.getElem?_eq_some_iff.1 (kept ha B)).1; omega
  clear ha hB B hwa c1
  go_upto_region 2 with fail
  generalize w1.alloc (.cells #[.int .i64 p.step, .int .i64 p.watch, .int .i64 p.panic, .int .i64 p.maxrate, .int .i64 p.phi, .int .i64 p.maxdist, .int .i64 p.gate, .int .i64 p.minpoll, .int .i64 p.maxpoll, .int .i64 p.burst, .int .i64 p.minsane, .int .i64 p.minleft] 25) = w2 at *
  generalize w1.heap.size = bp at *
  obtain ⟨s0, s1, s2, s3, s4, s5, s6⟩ := seven_in19 k1
  have HH := Lib.hid (And.intro k1 (And.intro kp kB))
  clear k1 kp kB s1 s2 s3 s4 s5 s6
  go_wp2_with fail
  (with_reducible refine (cs _).mono ?_)
  rintro e w3 ⟨rfl, B⟩
  obtain ⟨h1, h2, h3⟩ := HH.out
  have k1 := kept h1 B
  have kp := kept h2 B
  have kB := h3.trans (B.mono h3.size)
  clear h1 h2 h3 B HH s0 cs
  have m1 := block_set 1 (.int .i64 0) k1
  simp only [List.setIfInBounds_toArray, List.set_cons_zero, List.set_cons_succ] at m1
  have mp := (block_far (w := w3) 1 (.int .i64 0) nb.symm).trans kp
  have mB := kB.setCell (p := ⟨w.heap.size, 1, none⟩) (Nat.le_refl _) (.int .i64 0)
  have th1 := thaw19 k1 1
  obtain ⟨s0, s1, s2, s3, s4, s5, s6⟩ := seven_in19 k1
  have HH := Lib.hid (And.intro m1 (And.intro mp mB))
  clear k1 kp kB m1 mp mB s2 s3 s4 s5 s6
  go_upto_region 5 with fail
  obtain ⟨m1, mp, mB⟩ := HH.out
  clear HH s0 s1 th1
  generalize w3.setCell ⟨w.heap.size, 1, none⟩ (.int .i64 0) = w4 at *
  obtain ⟨s0, s1, s2, s3, s4, s5, s6⟩ := seven_in19 m1
  obtain ⟨n0, n1, n2, n3, n4, n5, n6, n7, n8, n9, n10, n11⟩ := twelve_atK mp
  have HH := Lib.hid (And.intro m1 (And.intro mp mB))
  clear m1 mp mB
  go_wp2_with fail
  (with_reducible refine (cU _).mono ?_)
  rintro e w5 ⟨rfl, B⟩
  obtain ⟨h1, h2, h3⟩ := HH.out
  have k1 := laid (.cells #[.int .i64 2, .int .i64 y1, .int .i64 y2, .int .i64 y3, .int .i64 y4, .int .i64 y5, .int .i64 y6] 28) (kept h1 B)
  have kp := laid (.cells #[.int .i64 2, .int .i64 y1, .int .i64 y2, .int .i64 y3, .int .i64 y4, .int .i64 y5, .int .i64 y6] 28) (kept h2 B)
  have kd := heap_alloc_new w5 (.cells #[.int .i64 2, .int .i64 y1, .int .i64 y2, .int .i64 y3, .int .i64 y4, .int .i64 y5, .int .i64 y6] 28)
  have kB := (h3.trans (B.mono h3.size)).alloc (h3.trans (B.mono h3.size)).size (.cells #[.int .i64 2, .int .i64 y1, .int .i64 y2, .int .i64 y3, .int .i64 y4, .int .i64 y5, .int .i64 y6] 28)
  clear h1 h2 h3 B HH s0 s1 s2 s3 s4 s5 s6 n0 n1 n2 n3 n4 n5 n6 n7 n8 n9 n10 n11 cU
  go_upto_region 6 with fail
  generalize w5.alloc (.cells #[.int .i64 2, .int .i64 y1, .int .i64 y2, .int .i64 y3, .int .i64 y4, .int .i64 y5, .int .i64 y6] 28) = w6 at *
  generalize w5.heap.size = bd at *
  obtain ⟨s0, s1, s2, s3, s4, s5, s6⟩ := seven_in19 k1
  obtain ⟨t0, t1, t2, t3, t4, t5, t6⟩ := seven_in19 kd
  obtain ⟨n0, n1, n2, n3, n4, n5, n6, n7, n8, n9, n10, n11⟩ := twelve_atK kp
  clear k1 kd kp n2 n3 n4 n5 n6 n7 n8 n9 n10 n11
  go_wp2_with fail
  go_ret
  exact ⟨by first | rfl | (simp; done), kB⟩
set_option maxRecDepth 100000 in
set_option maxHeartbeats 12800000 in
theorem st2_lo_late (p : Pm) (c1 : ∀ W, Calls Tryz.prog 10 #[] W fun e w' => e = .returned p.val ∧ Below W.heap.size W w') (e4 : IntKind.i64.wrap (-p.step) = -p.step) (x1 x2 x3 x4 x5 x6 y1 y2 y3 y4 y5 o g n : Int) (v1 : IntKind.i64.wrap g = g) (v2 : IntKind.i64.wrap (g * 4294967296) = g * 4294967296) (v3 : IntKind.i64.wrap n = n) (f1 : decide (p.step < o) = false) (f2 : decide (o < -p.step) = true) (f3 : decide ((g : Int) * 4294967296 < p.watch) = false)
    (cU : ∀ W, Calls Tryz.prog 12 #[p.val, .agg #[.int .i64 2, .int .i64 0, .int .i64 x2, .int .i64 x3, .int .i64 x4, .int .i64 x5, .int .i64 x6], .int .i64 o, .int .i64 (g * 4294967296), .int .i64 n] W fun e w' => e = .returned (.tuple #[.agg #[.int .i64 4, .int .i64 y1, .int .i64 y2, .int .i64 y3, .int .i64 y4, .int .i64 y5, .int .i64 0], .int .i64 2, .int .i64 o, .int .i64 0]) ∧ Below W.heap.size W w') (w : World) :
    Calls Tryz.prog 7 #[.agg #[.int .i64 2, .int .i64 x1, .int .i64 x2, .int .i64 x3, .int .i64 x4, .int .i64 x5, .int .i64 x6], .int .i64 o, .int .u16 g, .int .u8 n] w fun e w' => e = .returned (.bool true) ∧ Below w.heap.size w w' := by
  have cs := shown19_any
  unfold Pm.val at *
  obtain ⟨wa, hwa⟩ : ∃ wa, w.alloc (.cells #[.int .i64 2, .int .i64 x1, .int .i64 x2, .int .i64 x3, .int .i64 x4, .int .i64 x5, .int .i64 x6] 28) = wa := ⟨_, rfl⟩
  have ha : wa.heap[w.heap.size]? = some (.cells #[.int .i64 2, .int .i64 x1, .int .i64 x2, .int .i64 x3, .int .i64 x4, .int .i64 x5, .int .i64 x6] 28) := hwa ▸ heap_alloc_new w _
  have hB : Below w.heap.size w wa := hwa ▸ (Below.refl w.heap.size w).alloc (Nat.le_refl _) _
  go_enter Tryz.func7, Tryz.ntmps7
  go_wp2_with (rw [hwa])
  (with_reducible refine (c1 _).mono ?_)
  rintro e w1 ⟨rfl, B⟩
  have k1 := laid (.cells #[.int .i64 p.step, .int .i64 p.watch, .int .i64 p.panic, .int .i64 p.maxrate, .int .i64 p.phi, .int .i64 p.maxdist, .int .i64 p.gate, .int .i64 p.minpoll, .int .i64 p.maxpoll, .int .i64 p.burst, .int .i64 p.minsane, .int .i64 p.minleft] 25) (kept ha B)
  have kp := heap_alloc_new w1 (.cells #[.int .i64 p.step, .int .i64 p.watch, .int .i64 p.panic, .int .i64 p.maxrate, .int .i64 p.phi, .int .i64 p.maxdist, .int .i64 p.gate, .int .i64 p.minpoll, .int .i64 p.maxpoll, .int .i64 p.burst, .int .i64 p.minsane, .int .i64 p.minleft] 25)
  have kB := (hB.trans (B.mono hB.size)).alloc (hB.trans (B.mono hB.size)).size (.cells #[.int .i64 p.step, .int .i64 p.watch, .int .i64 p.panic, .int .i64 p.maxrate, .int .i64 p.phi, .int .i64 p.maxdist, .int .i64 p.gate, .int .i64 p.minpoll, .int .i64 p.maxpoll, .int .i64 p.burst, .int .i64 p.minsane, .int .i64 p.minleft] 25)
  have nb : w.heap.size ≠ w1.heap.size := by have := (Array.getElem?_eq_some_iff.1 (kept ha B)).1; omega
  clear ha hB B hwa c1
  go_upto_region 2 with fail
  generalize w1.alloc (.cells #[.int .i64 p.step, .int .i64 p.watch, .int .i64 p.panic, .int .i64 p.maxrate, .int .i64 p.phi, .int .i64 p.maxdist, .int .i64 p.gate, .int .i64 p.minpoll, .int .i64 p.maxpoll, .int .i64 p.burst, .int .i64 p.minsane, .int .i64 p.minleft] 25) = w2 at *
  generalize w1.heap.size = bp at *
  obtain ⟨s0, s1, s2, s3, s4, s5, s6⟩ := seven_in19 k1
  have HH := Lib.hid (And.intro k1 (And.intro kp kB))
  clear k1 kp kB s1 s2 s3 s4 s5 s6
  go_wp2_with fail
  (with_reducible refine (cs _).mono ?_)
  rintro e w3 ⟨rfl, B⟩
  obtain ⟨h1, h2, h3⟩ := HH.out
  have k1 := kept h1 B
  have kp := kept h2 B
  have kB := h3.trans (B.mono h3.size)
  clear h1 h2 h3 B HH s0 cs
  have m1 := block_set 1 (.int .i64 0) k1
  simp only [List.setIfInBounds_toArray, List.set_cons_zero, List.set_cons_succ] at m1
  have mp := (block_far (w := w3) 1 (.int .i64 0) nb.symm).trans kp
  have mB := kB.setCell (p := ⟨w.heap.size, 1, none⟩) (Nat.le_refl _) (.int .i64 0)
  have th1 := thaw19 k1 1
  obtain ⟨s0, s1, s2, s3, s4, s5, s6⟩ := seven_in19 k1
  have HH := Lib.hid (And.intro m1 (And.intro mp mB))
  clear k1 kp kB m1 mp mB s2 s3 s4 s5 s6
  go_upto_region 5 with fail
  obtain ⟨m1, mp, mB⟩ := HH.out
  clear HH s0 s1 th1
  generalize w3.setCell ⟨w.heap.size, 1, none⟩ (.int .i64 0) = w4 at *
  obtain ⟨s0, s1, s2, s3, s4, s5, s6⟩ := seven_in19 m1
  obtain ⟨n0, n1, n2, n3, n4, n5, n6, n7, n8, n9, n10, n11⟩ := twelve_atK mp
  have HH := Lib.hid (And.intro m1 (And.intro mp mB))
  clear m1 mp mB
  go_wp2_with fail
  (with_reducible refine (cU _).mono ?_)
  rintro e w5 ⟨rfl, B⟩
  obtain ⟨h1, h2, h3⟩ := HH.out
  have k1 := laid (.cells #[.int .i64 4, .int .i64 y1, .int .i64 y2, .int .i64 y3, .int .i64 y4, .int .i64 y5, .int .i64 0] 28) (kept h1 B)
  have kp := laid (.cells #[.int .i64 4, .int .i64 y1, .int .i64 y2, .int .i64 y3, .int .i64 y4, .int .i64 y5, .int .i64 0] 28) (kept h2 B)
  have kd := heap_alloc_new w5 (.cells #[.int .i64 4, .int .i64 y1, .int .i64 y2, .int .i64 y3, .int .i64 y4, .int .i64 y5, .int .i64 0] 28)
  have kB := (h3.trans (B.mono h3.size)).alloc (h3.trans (B.mono h3.size)).size (.cells #[.int .i64 4, .int .i64 y1, .int .i64 y2, .int .i64 y3, .int .i64 y4, .int .i64 y5, .int .i64 0] 28)
  clear h1 h2 h3 B HH s0 s1 s2 s3 s4 s5 s6 n0 n1 n2 n3 n4 n5 n6 n7 n8 n9 n10 n11 cU
  go_upto_region 6 with fail
  generalize w5.alloc (.cells #[.int .i64 4, .int .i64 y1, .int .i64 y2, .int .i64 y3, .int .i64 y4, .int .i64 y5, .int .i64 0] 28) = w6 at *
  generalize w5.heap.size = bd at *
  obtain ⟨s0, s1, s2, s3, s4, s5, s6⟩ := seven_in19 k1
  obtain ⟨t0, t1, t2, t3, t4, t5, t6⟩ := seven_in19 kd
  obtain ⟨n0, n1, n2, n3, n4, n5, n6, n7, n8, n9, n10, n11⟩ := twelve_atK kp
  clear k1 kd kp n2 n3 n4 n5 n6 n7 n8 n9 n10 n11
  go_wp2_with fail
  go_ret
  exact ⟨by first | rfl | (simp; done), kB⟩
set_option maxRecDepth 100000 in
set_option maxHeartbeats 12800000 in
theorem st3_near_early (p : Pm) (c1 : ∀ W, Calls Tryz.prog 10 #[] W fun e w' => e = .returned p.val ∧ Below W.heap.size W w') (e4 : IntKind.i64.wrap (-p.step) = -p.step) (x1 x2 x3 x4 x5 x6 y1 y2 y3 y4 y5 y6 o g n : Int) (v1 : IntKind.i64.wrap g = g) (v2 : IntKind.i64.wrap (g * 4294967296) = g * 4294967296) (v3 : IntKind.i64.wrap n = n) (f1 : decide (p.step < o) = false) (f2 : decide (o < -p.step) = false) (f3 : decide ((g : Int) * 4294967296 < p.watch) = true)
    (cU : ∀ W, Calls Tryz.prog 12 #[p.val, .agg #[.int .i64 3, .int .i64 0, .int .i64 x2, .int .i64 x3, .int .i64 x4, .int .i64 x5, .int .i64 x6], .int .i64 o, .int .i64 (g * 4294967296), .int .i64 n] W fun e w' => e = .returned (.tuple #[.agg #[.int .i64 3, .int .i64 y1, .int .i64 y2, .int .i64 y3, .int .i64 y4, .int .i64 y5, .int .i64 y6], .int .i64 0, .int .i64 0, .int .i64 0]) ∧ Below W.heap.size W w') (w : World) :
    Calls Tryz.prog 7 #[.agg #[.int .i64 3, .int .i64 x1, .int .i64 x2, .int .i64 x3, .int .i64 x4, .int .i64 x5, .int .i64 x6], .int .i64 o, .int .u16 g, .int .u8 n] w fun e w' => e = .returned (.bool true) ∧ Below w.heap.size w w' := by
  have cs := shown19_any
  unfold Pm.val at *
  obtain ⟨wa, hwa⟩ : ∃ wa, w.alloc (.cells #[.int .i64 3, .int .i64 x1, .int .i64 x2, .int .i64 x3, .int .i64 x4, .int .i64 x5, .int .i64 x6] 28) = wa := ⟨_, rfl⟩
  have ha : wa.heap[w.heap.size]? = some (.cells #[.int .i64 3, .int .i64 x1, .int .i64 x2, .int .i64 x3, .int .i64 x4, .int .i64 x5, .int .i64 x6] 28) := hwa ▸ heap_alloc_new w _
  have hB : Below w.heap.size w wa := hwa ▸ (Below.refl w.heap.size w).alloc (Nat.le_refl _) _
  go_enter Tryz.func7, Tryz.ntmps7
  go_wp2_with (rw [hwa])
  (with_reducible refine (c1 _).mono ?_)
  rintro e w1 ⟨rfl, B⟩
  have k1 := laid (.cells #[.int .i64 p.step, .int .i64 p.watch, .int .i64 p.panic, .int .i64 p.maxrate, .int .i64 p.phi, .int .i64 p.maxdist, .int .i64 p.gate, .int .i64 p.minpoll, .int .i64 p.maxpoll, .int .i64 p.burst, .int .i64 p.minsane, .int .i64 p.minleft] 25) (kept ha B)
  have kp := heap_alloc_new w1 (.cells #[.int .i64 p.step, .int .i64 p.watch, .int .i64 p.panic, .int .i64 p.maxrate, .int .i64 p.phi, .int .i64 p.maxdist, .int .i64 p.gate, .int .i64 p.minpoll, .int .i64 p.maxpoll, .int .i64 p.burst, .int .i64 p.minsane, .int .i64 p.minleft] 25)
  have kB := (hB.trans (B.mono hB.size)).alloc (hB.trans (B.mono hB.size)).size (.cells #[.int .i64 p.step, .int .i64 p.watch, .int .i64 p.panic, .int .i64 p.maxrate, .int .i64 p.phi, .int .i64 p.maxdist, .int .i64 p.gate, .int .i64 p.minpoll, .int .i64 p.maxpoll, .int .i64 p.burst, .int .i64 p.minsane, .int .i64 p.minleft] 25)
  have nb : w.heap.size ≠ w1.heap.size := by have := (Array.getElem?_eq_some_iff.1 (kept ha B)).1; omega
  clear ha hB B hwa c1
  go_upto_region 2 with fail
  generalize w1.alloc (.cells #[.int .i64 p.step, .int .i64 p.watch, .int .i64 p.panic, .int .i64 p.maxrate, .int .i64 p.phi, .int .i64 p.maxdist, .int .i64 p.gate, .int .i64 p.minpoll, .int .i64 p.maxpoll, .int .i64 p.burst, .int .i64 p.minsane, .int .i64 p.minleft] 25) = w2 at *
  generalize w1.heap.size = bp at *
  obtain ⟨s0, s1, s2, s3, s4, s5, s6⟩ := seven_in19 k1
  have HH := Lib.hid (And.intro k1 (And.intro kp kB))
  clear k1 kp kB s1 s2 s3 s4 s5 s6
  go_wp2_with fail
  (with_reducible refine (cs _).mono ?_)
  rintro e w3 ⟨rfl, B⟩
  obtain ⟨h1, h2, h3⟩ := HH.out
  have k1 := kept h1 B
  have kp := kept h2 B
  have kB := h3.trans (B.mono h3.size)
  clear h1 h2 h3 B HH s0 cs
  have m1 := block_set 1 (.int .i64 0) k1
  simp only [List.setIfInBounds_toArray, List.set_cons_zero, List.set_cons_succ] at m1
  have mp := (block_far (w := w3) 1 (.int .i64 0) nb.symm).trans kp
  have mB := kB.setCell (p := ⟨w.heap.size, 1, none⟩) (Nat.le_refl _) (.int .i64 0)
  have th1 := thaw19 k1 1
  obtain ⟨s0, s1, s2, s3, s4, s5, s6⟩ := seven_in19 k1
  have HH := Lib.hid (And.intro m1 (And.intro mp mB))
  clear k1 kp kB m1 mp mB s2 s3 s4 s5 s6
  go_upto_region 5 with fail
  obtain ⟨m1, mp, mB⟩ := HH.out
  clear HH s0 s1 th1
  generalize w3.setCell ⟨w.heap.size, 1, none⟩ (.int .i64 0) = w4 at *
  obtain ⟨s0, s1, s2, s3, s4, s5, s6⟩ := seven_in19 m1
  obtain ⟨n0, n1, n2, n3, n4, n5, n6, n7, n8, n9, n10, n11⟩ := twelve_atK mp
  have HH := Lib.hid (And.intro m1 (And.intro mp mB))
  clear m1 mp mB
  go_wp2_with fail
  (with_reducible refine (cU _).mono ?_)
  rintro e w5 ⟨rfl, B⟩
  obtain ⟨h1, h2, h3⟩ := HH.out
  have k1 := laid (.cells #[.int .i64 3, .int .i64 y1, .int .i64 y2, .int .i64 y3, .int .i64 y4, .int .i64 y5, .int .i64 y6] 28) (kept h1 B)
  have kp := laid (.cells #[.int .i64 3, .int .i64 y1, .int .i64 y2, .int .i64 y3, .int .i64 y4, .int .i64 y5, .int .i64 y6] 28) (kept h2 B)
  have kd := heap_alloc_new w5 (.cells #[.int .i64 3, .int .i64 y1, .int .i64 y2, .int .i64 y3, .int .i64 y4, .int .i64 y5, .int .i64 y6] 28)
  have kB := (h3.trans (B.mono h3.size)).alloc (h3.trans (B.mono h3.size)).size (.cells #[.int .i64 3, .int .i64 y1, .int .i64 y2, .int .i64 y3, .int .i64 y4, .int .i64 y5, .int .i64 y6] 28)
  clear h1 h2 h3 B HH s0 s1 s2 s3 s4 s5 s6 n0 n1 n2 n3 n4 n5 n6 n7 n8 n9 n10 n11 cU
  go_upto_region 6 with fail
  generalize w5.alloc (.cells #[.int .i64 3, .int .i64 y1, .int .i64 y2, .int .i64 y3, .int .i64 y4, .int .i64 y5, .int .i64 y6] 28) = w6 at *
  generalize w5.heap.size = bd at *
  obtain ⟨s0, s1, s2, s3, s4, s5, s6⟩ := seven_in19 k1
  obtain ⟨t0, t1, t2, t3, t4, t5, t6⟩ := seven_in19 kd
  obtain ⟨n0, n1, n2, n3, n4, n5, n6, n7, n8, n9, n10, n11⟩ := twelve_atK kp
  clear k1 kd kp n2 n3 n4 n5 n6 n7 n8 n9 n10 n11
  go_wp2_with fail
  go_ret
  exact ⟨by first | rfl | (simp; done), kB⟩
set_option maxRecDepth 100000 in
set_option maxHeartbeats 12800000 in
theorem st3_near_late (p : Pm) (c1 : ∀ W, Calls Tryz.prog 10 #[] W fun e w' => e = .returned p.val ∧ Below W.heap.size W w') (e4 : IntKind.i64.wrap (-p.step) = -p.step) (x1 x2 x3 x4 x5 x6 y1 y2 y3 y4 y5 o g n : Int) (v1 : IntKind.i64.wrap g = g) (v2 : IntKind.i64.wrap (g * 4294967296) = g * 4294967296) (v3 : IntKind.i64.wrap n = n) (f1 : decide (p.step < o) = false) (f2 : decide (o < -p.step) = false) (f3 : decide ((g : Int) * 4294967296 < p.watch) = false)
    (cU : ∀ W, Calls Tryz.prog 12 #[p.val, .agg #[.int .i64 3, .int .i64 0, .int .i64 x2, .int .i64 x3, .int .i64 x4, .int .i64 x5, .int .i64 x6], .int .i64 o, .int .i64 (g * 4294967296), .int .i64 n] W fun e w' => e = .returned (.tuple #[.agg #[.int .i64 4, .int .i64 y1, .int .i64 y2, .int .i64 y3, .int .i64 y4, .int .i64 y5, .int .i64 o], .int .i64 1, .int .i64 o, .int .i64 0]) ∧ Below W.heap.size W w') (w : World) :
    Calls Tryz.prog 7 #[.agg #[.int .i64 3, .int .i64 x1, .int .i64 x2, .int .i64 x3, .int .i64 x4, .int .i64 x5, .int .i64 x6], .int .i64 o, .int .u16 g, .int .u8 n] w fun e w' => e = .returned (.bool true) ∧ Below w.heap.size w w' := by
  have cs := shown19_any
  unfold Pm.val at *
  obtain ⟨wa, hwa⟩ : ∃ wa, w.alloc (.cells #[.int .i64 3, .int .i64 x1, .int .i64 x2, .int .i64 x3, .int .i64 x4, .int .i64 x5, .int .i64 x6] 28) = wa := ⟨_, rfl⟩
  have ha : wa.heap[w.heap.size]? = some (.cells #[.int .i64 3, .int .i64 x1, .int .i64 x2, .int .i64 x3, .int .i64 x4, .int .i64 x5, .int .i64 x6] 28) := hwa ▸ heap_alloc_new w _
  have hB : Below w.heap.size w wa := hwa ▸ (Below.refl w.heap.size w).alloc (Nat.le_refl _) _
  go_enter Tryz.func7, Tryz.ntmps7
  go_wp2_with (rw [hwa])
  (with_reducible refine (c1 _).mono ?_)
  rintro e w1 ⟨rfl, B⟩
  have k1 := laid (.cells #[.int .i64 p.step, .int .i64 p.watch, .int .i64 p.panic, .int .i64 p.maxrate, .int .i64 p.phi, .int .i64 p.maxdist, .int .i64 p.gate, .int .i64 p.minpoll, .int .i64 p.maxpoll, .int .i64 p.burst, .int .i64 p.minsane, .int .i64 p.minleft] 25) (kept ha B)
  have kp := heap_alloc_new w1 (.cells #[.int .i64 p.step, .int .i64 p.watch, .int .i64 p.panic, .int .i64 p.maxrate, .int .i64 p.phi, .int .i64 p.maxdist, .int .i64 p.gate, .int .i64 p.minpoll, .int .i64 p.maxpoll, .int .i64 p.burst, .int .i64 p.minsane, .int .i64 p.minleft] 25)
  have kB := (hB.trans (B.mono hB.size)).alloc (hB.trans (B.mono hB.size)).size (.cells #[.int .i64 p.step, .int .i64 p.watch, .int .i64 p.panic, .int .i64 p.maxrate, .int .i64 p.phi, .int .i64 p.maxdist, .int .i64 p.gate, .int .i64 p.minpoll, .int .i64 p.maxpoll, .int .i64 p.burst, .int .i64 p.minsane, .int .i64 p.minleft] 25)
  have nb : w.heap.size ≠ w1.heap.size := by have := (Array.getElem?_eq_some_iff.1 (kept ha B)).1; omega
  clear ha hB B hwa c1
  go_upto_region 2 with fail
  generalize w1.alloc (.cells #[.int .i64 p.step, .int .i64 p.watch, .int .i64 p.panic, .int .i64 p.maxrate, .int .i64 p.phi, .int .i64 p.maxdist, .int .i64 p.gate, .int .i64 p.minpoll, .int .i64 p.maxpoll, .int .i64 p.burst, .int .i64 p.minsane, .int .i64 p.minleft] 25) = w2 at *
  generalize w1.heap.size = bp at *
  obtain ⟨s0, s1, s2, s3, s4, s5, s6⟩ := seven_in19 k1
  have HH := Lib.hid (And.intro k1 (And.intro kp kB))
  clear k1 kp kB s1 s2 s3 s4 s5 s6
  go_wp2_with fail
  (with_reducible refine (cs _).mono ?_)
  rintro e w3 ⟨rfl, B⟩
  obtain ⟨h1, h2, h3⟩ := HH.out
  have k1 := kept h1 B
  have kp := kept h2 B
  have kB := h3.trans (B.mono h3.size)
  clear h1 h2 h3 B HH s0 cs
  have m1 := block_set 1 (.int .i64 0) k1
  simp only [List.setIfInBounds_toArray, List.set_cons_zero, List.set_cons_succ] at m1
  have mp := (block_far (w := w3) 1 (.int .i64 0) nb.symm).trans kp
  have mB := kB.setCell (p := ⟨w.heap.size, 1, none⟩) (Nat.le_refl _) (.int .i64 0)
  have th1 := thaw19 k1 1
  obtain ⟨s0, s1, s2, s3, s4, s5, s6⟩ := seven_in19 k1
  have HH := Lib.hid (And.intro m1 (And.intro mp mB))
  clear k1 kp kB m1 mp mB s2 s3 s4 s5 s6
  go_upto_region 5 with fail
  obtain ⟨m1, mp, mB⟩ := HH.out
  clear HH s0 s1 th1
  generalize w3.setCell ⟨w.heap.size, 1, none⟩ (.int .i64 0) = w4 at *
  obtain ⟨s0, s1, s2, s3, s4, s5, s6⟩ := seven_in19 m1
  obtain ⟨n0, n1, n2, n3, n4, n5, n6, n7, n8, n9, n10, n11⟩ := twelve_atK mp
  have HH := Lib.hid (And.intro m1 (And.intro mp mB))
  clear m1 mp mB
  go_wp2_with fail
  (with_reducible refine (cU _).mono ?_)
  rintro e w5 ⟨rfl, B⟩
  obtain ⟨h1, h2, h3⟩ := HH.out
  have k1 := laid (.cells #[.int .i64 4, .int .i64 y1, .int .i64 y2, .int .i64 y3, .int .i64 y4, .int .i64 y5, .int .i64 o] 28) (kept h1 B)
  have kp := laid (.cells #[.int .i64 4, .int .i64 y1, .int .i64 y2, .int .i64 y3, .int .i64 y4, .int .i64 y5, .int .i64 o] 28) (kept h2 B)
  have kd := heap_alloc_new w5 (.cells #[.int .i64 4, .int .i64 y1, .int .i64 y2, .int .i64 y3, .int .i64 y4, .int .i64 y5, .int .i64 o] 28)
  have kB := (h3.trans (B.mono h3.size)).alloc (h3.trans (B.mono h3.size)).size (.cells #[.int .i64 4, .int .i64 y1, .int .i64 y2, .int .i64 y3, .int .i64 y4, .int .i64 y5, .int .i64 o] 28)
  clear h1 h2 h3 B HH s0 s1 s2 s3 s4 s5 s6 n0 n1 n2 n3 n4 n5 n6 n7 n8 n9 n10 n11 cU
  go_upto_region 6 with fail
  generalize w5.alloc (.cells #[.int .i64 4, .int .i64 y1, .int .i64 y2, .int .i64 y3, .int .i64 y4, .int .i64 y5, .int .i64 o] 28) = w6 at *
  generalize w5.heap.size = bd at *
  obtain ⟨s0, s1, s2, s3, s4, s5, s6⟩ := seven_in19 k1
  obtain ⟨t0, t1, t2, t3, t4, t5, t6⟩ := seven_in19 kd
  obtain ⟨n0, n1, n2, n3, n4, n5, n6, n7, n8, n9, n10, n11⟩ := twelve_atK kp
  clear k1 kd kp n2 n3 n4 n5 n6 n7 n8 n9 n10 n11
  go_wp2_with fail
  go_ret
  exact ⟨by first | rfl | (simp; done), kB⟩
set_option maxRecDepth 100000 in
set_option maxHeartbeats 12800000 in
theorem st2_near (p : Pm) (c1 : ∀ W, Calls Tryz.prog 10 #[] W fun e w' => e = .returned p.val ∧ Below W.heap.size W w') (e4 : IntKind.i64.wrap (-p.step) = -p.step) (x1 x2 x3 x4 x5 x6 y1 y2 y3 y4 y5 o g n : Int) (v1 : IntKind.i64.wrap g = g) (v2 : IntKind.i64.wrap (g * 4294967296) = g * 4294967296) (v3 : IntKind.i64.wrap n = n) (f1 : decide (p.step < o) = false) (f2 : decide (o < -p.step) = false)
    (cU : ∀ W, Calls Tryz.prog 12 #[p.val, .agg #[.int .i64 2, .int .i64 0, .int .i64 x2, .int .i64 x3, .int .i64 x4, .int .i64 x5, .int .i64 x6], .int .i64 o, .int .i64 (g * 4294967296), .int .i64 n] W fun e w' => e = .returned (.tuple #[.agg #[.int .i64 4, .int .i64 y1, .int .i64 y2, .int .i64 y3, .int .i64 y4, .int .i64 y5, .int .i64 o], .int .i64 1, .int .i64 o, .int .i64 0]) ∧ Below W.heap.size W w') (w : World) :
    Calls Tryz.prog 7 #[.agg #[.int .i64 2, .int .i64 x1, .int .i64 x2, .int .i64 x3, .int .i64 x4, .int .i64 x5, .int .i64 x6], .int .i64 o, .int .u16 g, .int .u8 n] w fun e w' => e = .returned (.bool true) ∧ Below w.heap.size w w' := by
  have cs := shown19_any
  unfold Pm.val at *
  obtain ⟨wa, hwa⟩ : ∃ wa, w.alloc (.cells #[.int .i64 2, .int .i64 x1, .int .i64 x2, .int .i64 x3, .int .i64 x4, .int .i64 x5, .int .i64 x6] 28) = wa := ⟨_, rfl⟩
  have ha : wa.heap[w.heap.size]? = some (.cells #[.int .i64 2, .int .i64 x1, .int .i64 x2, .int .i64 x3, .int .i64 x4, .int .i64 x5, .int .i64 x6] 28) := hwa ▸ heap_alloc_new w _
  have hB : Below w.heap.size w wa := hwa ▸ (Below.refl w.heap.size w).alloc (Nat.le_refl _) _
  go_enter Tryz.func7, Tryz.ntmps7
  go_wp2_with (rw [hwa])
  (with_reducible refine (c1 _).mono ?_)
  rintro e w1 ⟨rfl, B⟩
  have k1 := laid (.cells #[.int .i64 p.step, .int .i64 p.watch, .int .i64 p.panic, .int .i64 p.maxrate, .int .i64 p.phi, .int .i64 p.maxdist, .int .i64 p.gate, .int .i64 p.minpoll, .int .i64 p.maxpoll, .int .i64 p.burst, .int .i64 p.minsane, .int .i64 p.minleft] 25) (kept ha B)
  have kp := heap_alloc_new w1 (.cells #[.int .i64 p.step, .int .i64 p.watch, .int .i64 p.panic, .int .i64 p.maxrate, .int .i64 p.phi, .int .i64 p.maxdist, .int .i64 p.gate, .int .i64 p.minpoll, .int .i64 p.maxpoll, .int .i64 p.burst, .int .i64 p.minsane, .int .i64 p.minleft] 25)
  have kB := (hB.trans (B.mono hB.size)).alloc (hB.trans (B.mono hB.size)).size (.cells #[.int .i64 p.step, .int .i64 p.watch, .int .i64 p.panic, .int .i64 p.maxrate, .int .i64 p.phi, .int .i64 p.maxdist, .int .i64 p.gate, .int .i64 p.minpoll, .int .i64 p.maxpoll, .int .i64 p.burst, .int .i64 p.minsane, .int .i64 p.minleft] 25)
  have nb : w.heap.size ≠ w1.heap.size := by have := (Array.getElem?_eq_some_iff.1 (kept ha B)).1; omega
  clear ha hB B hwa c1
  go_upto_region 2 with fail
  generalize w1.alloc (.cells #[.int .i64 p.step, .int .i64 p.watch, .int .i64 p.panic, .int .i64 p.maxrate, .int .i64 p.phi, .int .i64 p.maxdist, .int .i64 p.gate, .int .i64 p.minpoll, .int .i64 p.maxpoll, .int .i64 p.burst, .int .i64 p.minsane, .int .i64 p.minleft] 25) = w2 at *
  generalize w1.heap.size = bp at *
  obtain ⟨s0, s1, s2, s3, s4, s5, s6⟩ := seven_in19 k1
  have HH := Lib.hid (And.intro k1 (And.intro kp kB))
  clear k1 kp kB s1 s2 s3 s4 s5 s6
  go_wp2_with fail
  (with_reducible refine (cs _).mono ?_)
  rintro e w3 ⟨rfl, B⟩
  obtain ⟨h1, h2, h3⟩ := HH.out
  have k1 := kept h1 B
  have kp := kept h2 B
  have kB := h3.trans (B.mono h3.size)
  clear h1 h2 h3 B HH s0 cs
  have m1 := block_set 1 (.int .i64 0) k1
  simp only [List.setIfInBounds_toArray, List.set_cons_zero, List.set_cons_succ] at m1
  have mp := (block_far (w := w3) 1 (.int .i64 0) nb.symm).trans kp
  have mB := kB.setCell (p := ⟨w.heap.size, 1, none⟩) (Nat.le_refl _) (.int .i64 0)
  have th1 := thaw19 k1 1
  obtain ⟨s0, s1, s2, s3, s4, s5, s6⟩ := seven_in19 k1
  have HH := Lib.hid (And.intro m1 (And.intro mp mB))
  clear k1 kp kB m1 mp mB s2 s3 s4 s5 s6
  go_upto_region 5 with fail
  obtain ⟨m1, mp, mB⟩ := HH.out
  clear HH s0 s1 th1
  generalize w3.setCell ⟨w.heap.size, 1, none⟩ (.int .i64 0) = w4 at *
  obtain ⟨s0, s1, s2, s3, s4, s5, s6⟩ := seven_in19 m1
  obtain ⟨n0, n1, n2, n3, n4, n5, n6, n7, n8, n9, n10, n11⟩ := twelve_atK mp
  have HH := Lib.hid (And.intro m1 (And.intro mp mB))
  clear m1 mp mB
  go_wp2_with fail
  (with_reducible refine (cU _).mono ?_)
  rintro e w5 ⟨rfl, B⟩
  obtain ⟨h1, h2, h3⟩ := HH.out
  have k1 := laid (.cells #[.int .i64 4, .int .i64 y1, .int .i64 y2, .int .i64 y3, .int .i64 y4, .int .i64 y5, .int .i64 o] 28) (kept h1 B)
  have kp := laid (.cells #[.int .i64 4, .int .i64 y1, .int .i64 y2, .int .i64 y3, .int .i64 y4, .int .i64 y5, .int .i64 o] 28) (kept h2 B)
  have kd := heap_alloc_new w5 (.cells #[.int .i64 4, .int .i64 y1, .int .i64 y2, .int .i64 y3, .int .i64 y4, .int .i64 y5, .int .i64 o] 28)
  have kB := (h3.trans (B.mono h3.size)).alloc (h3.trans (B.mono h3.size)).size (.cells #[.int .i64 4, .int .i64 y1, .int .i64 y2, .int .i64 y3, .int .i64 y4, .int .i64 y5, .int .i64 o] 28)
  clear h1 h2 h3 B HH s0 s1 s2 s3 s4 s5 s6 n0 n1 n2 n3 n4 n5 n6 n7 n8 n9 n10 n11 cU
  go_upto_region 6 with fail
  generalize w5.alloc (.cells #[.int .i64 4, .int .i64 y1, .int .i64 y2, .int .i64 y3, .int .i64 y4, .int .i64 y5, .int .i64 o] 28) = w6 at *
  generalize w5.heap.size = bd at *
  obtain ⟨s0, s1, s2, s3, s4, s5, s6⟩ := seven_in19 k1
  obtain ⟨t0, t1, t2, t3, t4, t5, t6⟩ := seven_in19 kd
  obtain ⟨n0, n1, n2, n3, n4, n5, n6, n7, n8, n9, n10, n11⟩ := twelve_atK kp
  clear k1 kd kp n2 n3 n4 n5 n6 n7 n8 n9 n10 n11
  go_wp2_with fail
  go_ret
  exact ⟨by first | rfl | (simp; done), kB⟩
set_option maxRecDepth 100000 in
set_option maxHeartbeats 12800000 in
theorem st_panic (p : Pm) (c1 : ∀ W, Calls Tryz.prog 10 #[] W fun e w' => e = .returned p.val ∧ Below W.heap.size W w') (e4 : IntKind.i64.wrap (-p.step) = -p.step) (x0 x1 x2 x3 x4 x5 x6 o g n : Int) (v1 : IntKind.i64.wrap g = g) (v2 : IntKind.i64.wrap (g * 4294967296) = g * 4294967296) (v3 : IntKind.i64.wrap n = n) (g1 : decide (x0 < 0) = false) (g2 : decide (4 < x0) = false) (g3 : (x0 != 0) = true) (hq : ∀ W, (binOp .eql 28 (.agg #[.int .i64 x0, .int .i64 0, .int .i64 x2, .int .i64 x3, .int .i64 x4, .int .i64 x5, .int .i64 x6]) (.agg #[.int .i64 x0, .int .i64 0, .int .i64 x2, .int .i64 x3, .int .i64 x4, .int .i64 x5, .int .i64 x6])).run Tryz.prog W = .ok (.bool true) W)
    (cU : ∀ W, Calls Tryz.prog 12 #[p.val, .agg #[.int .i64 x0, .int .i64 0, .int .i64 x2, .int .i64 x3, .int .i64 x4, .int .i64 x5, .int .i64 x6], .int .i64 o, .int .i64 (g * 4294967296), .int .i64 n] W fun e w' => e = .returned (.tuple #[.agg #[.int .i64 x0, .int .i64 0, .int .i64 x2, .int .i64 x3, .int .i64 x4, .int .i64 x5, .int .i64 x6], .int .i64 0, .int .i64 0, .int .i64 190]) ∧ Below W.heap.size W w') (w : World) :
    Calls Tryz.prog 7 #[.agg #[.int .i64 x0, .int .i64 x1, .int .i64 x2, .int .i64 x3, .int .i64 x4, .int .i64 x5, .int .i64 x6], .int .i64 o, .int .u16 g, .int .u8 n] w fun e w' => e = .returned (.bool true) ∧ Below w.heap.size w w' := by
  have cs := shown19_any
  unfold Pm.val at *
  obtain ⟨wa, hwa⟩ : ∃ wa, w.alloc (.cells #[.int .i64 x0, .int .i64 x1, .int .i64 x2, .int .i64 x3, .int .i64 x4, .int .i64 x5, .int .i64 x6] 28) = wa := ⟨_, rfl⟩
  have ha : wa.heap[w.heap.size]? = some (.cells #[.int .i64 x0, .int .i64 x1, .int .i64 x2, .int .i64 x3, .int .i64 x4, .int .i64 x5, .int .i64 x6] 28) := hwa ▸ heap_alloc_new w _
  have hB : Below w.heap.size w wa := hwa ▸ (Below.refl w.heap.size w).alloc (Nat.le_refl _) _
  go_enter Tryz.func7, Tryz.ntmps7
  go_wp2_with (rw [hwa])
  (with_reducible refine (c1 _).mono ?_)
  rintro e w1 ⟨rfl, B⟩
  have k1 := laid (.cells #[.int .i64 p.step, .int .i64 p.watch, .int .i64 p.panic, .int .i64 p.maxrate, .int .i64 p.phi, .int .i64 p.maxdist, .int .i64 p.gate, .int .i64 p.minpoll, .int .i64 p.maxpoll, .int .i64 p.burst, .int .i64 p.minsane, .int .i64 p.minleft] 25) (kept ha B)
  have kp := heap_alloc_new w1 (.cells #[.int .i64 p.step, .int .i64 p.watch, .int .i64 p.panic, .int .i64 p.maxrate, .int .i64 p.phi, .int .i64 p.maxdist, .int .i64 p.gate, .int .i64 p.minpoll, .int .i64 p.maxpoll, .int .i64 p.burst, .int .i64 p.minsane, .int .i64 p.minleft] 25)
  have kB := (hB.trans (B.mono hB.size)).alloc (hB.trans (B.mono hB.size)).size (.cells #[.int .i64 p.step, .int .i64 p.watch, .int .i64 p.panic, .int .i64 p.maxrate, .int .i64 p.phi, .int .i64 p.maxdist, .int .i64 p.gate, .int .i64 p.minpoll, .int .i64 p.maxpoll, .int .i64 p.burst, .int .i64 p.minsane, .int .i64 p.minleft] 25)
  have nb : w.heap.size ≠ w1.heap.size := by have := (Array.getElem?_eq_some_iff.1 (kept ha B)).1; omega
  clear ha hB B hwa c1
  go_upto_region 2 with fail
  generalize w1.alloc (.cells #[.int .i64 p.step, .int .i64 p.watch, .int .i64 p.panic, .int .i64 p.maxrate, .int .i64 p.phi, .int .i64 p.maxdist, .int .i64 p.gate, .int .i64 p.minpoll, .int .i64 p.maxpoll, .int .i64 p.burst, .int .i64 p.minsane, .int .i64 p.minleft] 25) = w2 at *
  generalize w1.heap.size = bp at *
  obtain ⟨s0, s1, s2, s3, s4, s5, s6⟩ := seven_in19 k1
  have HH := Lib.hid (And.intro k1 (And.intro kp kB))
  clear k1 kp kB s1 s2 s3 s4 s5 s6
  go_wp2_with fail
  (with_reducible refine (cs _).mono ?_)
  rintro e w3 ⟨rfl, B⟩
  obtain ⟨h1, h2, h3⟩ := HH.out
  have k1 := kept h1 B
  have kp := kept h2 B
  have kB := h3.trans (B.mono h3.size)
  clear h1 h2 h3 B HH s0 cs
  have m1 := block_set 1 (.int .i64 0) k1
  simp only [List.setIfInBounds_toArray, List.set_cons_zero, List.set_cons_succ] at m1
  have mp := (block_far (w := w3) 1 (.int .i64 0) nb.symm).trans kp
  have mB := kB.setCell (p := ⟨w.heap.size, 1, none⟩) (Nat.le_refl _) (.int .i64 0)
  have th1 := thaw19 k1 1
  obtain ⟨s0, s1, s2, s3, s4, s5, s6⟩ := seven_in19 k1
  have HH := Lib.hid (And.intro m1 (And.intro mp mB))
  clear k1 kp kB m1 mp mB s2 s3 s4 s5 s6
  go_upto_region 5 with fail
  obtain ⟨m1, mp, mB⟩ := HH.out
  clear HH s0 s1 th1
  generalize w3.setCell ⟨w.heap.size, 1, none⟩ (.int .i64 0) = w4 at *
  obtain ⟨s0, s1, s2, s3, s4, s5, s6⟩ := seven_in19 m1
  obtain ⟨n0, n1, n2, n3, n4, n5, n6, n7, n8, n9, n10, n11⟩ := twelve_atK mp
  have HH := Lib.hid (And.intro m1 (And.intro mp mB))
  clear m1 mp mB
  go_wp2_with fail
  (with_reducible refine (cU _).mono ?_)
  rintro e w5 ⟨rfl, B⟩
  obtain ⟨h1, h2, h3⟩ := HH.out
  have k1 := laid (.cells #[.int .i64 x0, .int .i64 0, .int .i64 x2, .int .i64 x3, .int .i64 x4, .int .i64 x5, .int .i64 x6] 28) (kept h1 B)
  have kp := laid (.cells #[.int .i64 x0, .int .i64 0, .int .i64 x2, .int .i64 x3, .int .i64 x4, .int .i64 x5, .int .i64 x6] 28) (kept h2 B)
  have kd := heap_alloc_new w5 (.cells #[.int .i64 x0, .int .i64 0, .int .i64 x2, .int .i64 x3, .int .i64 x4, .int .i64 x5, .int .i64 x6] 28)
  have kB := (h3.trans (B.mono h3.size)).alloc (h3.trans (B.mono h3.size)).size (.cells #[.int .i64 x0, .int .i64 0, .int .i64 x2, .int .i64 x3, .int .i64 x4, .int .i64 x5, .int .i64 x6] 28)
  clear h1 h2 h3 B HH s0 s1 s2 s3 s4 s5 s6 n0 n1 n2 n3 n4 n5 n6 n7 n8 n9 n10 n11 cU
  go_upto_region 6 with fail
  generalize w5.alloc (.cells #[.int .i64 x0, .int .i64 0, .int .i64 x2, .int .i64 x3, .int .i64 x4, .int .i64 x5, .int .i64 x6] 28) = w6 at *
  generalize w5.heap.size = bd at *
  obtain ⟨s0, s1, s2, s3, s4, s5, s6⟩ := seven_in19 k1
  obtain ⟨t0, t1, t2, t3, t4, t5, t6⟩ := seven_in19 kd
  obtain ⟨n0, n1, n2, n3, n4, n5, n6, n7, n8, n9, n10, n11⟩ := twelve_atK kp
  clear k1 kd kp n2 n3 n4 n5 n6 n7 n8 n9 n10 n11
  go_wp2_with fail
  go_ret
  exact ⟨by first | rfl | (simp; done), kB⟩
end Go.Proofs.YtlidlmgmijndcaaGreat.W
