/- Layer 19's own code, walked: a frequency that is measured, or turned. -/
import Derived.Test.YtlidlmgmijndcaaGreatLpG
namespace Go.Proofs.YtlidlmgmijndcaaGreat.W
open Go.RowKit Go.Sort Go.WideShapes
set_option linter.unusedVariables false
set_option linter.unusedSimpArgs false
abbrev nw0 : Array Value := #[.int .i64 0, .int .i64 0, .int .i64 0, .int .i64 0, .int .i64 0, .int .i64 0, .int .i64 0, .int .i64 0, .int .i64 0, .int .i64 0, .int .i64 0, .int .i64 0, .int .i64 0, .int .i64 0, .int .i64 0, .int .i64 0, .int .i64 0, .int .i64 0, .int .i64 0, .int .i64 0, .int .i64 0, .int .i64 0, .int .i64 0]
theorem rangeU19 (p : Pm) (d : Dc) (o gone n : Int) : -9223372036854775808 ≤ turnL p d o gone n ∧ turnL p d o gone n ≤ 9223372036854775807 := by
  unfold turnL
  split
  · exact rangeA19 _ _
  · exact rangeH19 _ _
/-- One cell of a row of news, laid anew. -/
theorem one_setE {w0 W : World} {C D : Array Value} {t u : TypeId} (j : Nat) (a : Value) (h1 : W.heap[w0.heap.size]? = some (.cells C t (0, 0))) (h2 : W.heap[w0.heap.size + 1]? = some (.cells D u (0, 0))) (hB : Below w0.heap.size w0 W) :
    (W.setCell ⟨w0.heap.size, j, none⟩ a).heap[w0.heap.size]? = some (.cells (C.setIfInBounds j a) t (0, 0)) ∧ (W.setCell ⟨w0.heap.size, j, none⟩ a).heap[w0.heap.size + 1]? = some (.cells D u (0, 0)) ∧ Below w0.heap.size w0 (W.setCell ⟨w0.heap.size, j, none⟩ a) :=
  ⟨block_set j a h1, (block_far j a (by omega)).trans h2, hB.setCell (p := ⟨w0.heap.size, j, none⟩) (Nat.le_refl _) a⟩
set_option maxRecDepth 100000 in
set_option maxHeartbeats 12800000 in
theorem nmeas_any (n : Nw) (tn : n.Typed) (w : World) :
    Calls Tryz.prog 83 #[n.val] w fun e w' => e = .returned (Nw.val { n with d := { n.d with freq := holdL n.p (addI n.d.freq (divI n.off n.gone)) } }) ∧ Below w.heap.size w w' := by
  obtain ⟨W, hW⟩ : ∃ W, (w.alloc (.cells (nwC n) 63)).alloc (.cells nw0 63) = W := ⟨_, rfl⟩
  obtain ⟨h1, h2, hB, hz⟩ := two_newE _ _ _ _ _ _ hW
  have c1 := fdiv_any n.off n.gone tn.off.1 tn.off.2 tn.gone.1 tn.gone.2
  have r1 := rangeD19 n.off n.gone
  have c2 := add_any n.d.freq (divI n.off n.gone) tn.d.freq.1 tn.d.freq.2 r1.1 r1.2
  have r2 := rangeA19 n.d.freq (divI n.off n.gone)
  have c3 := lphold_any n.p tn.p tn.rate (addI n.d.freq (divI n.off n.gone)) r2
  have one := nw_oneE { n with d := { n.d with freq := holdL n.p (addI n.d.freq (divI n.off n.gone)) } }
  unfold Nw.val Pm.val nwC at *
  dsimp only at *
  generalize holdL n.p (addI n.d.freq (divI n.off n.gone)) = z at *
  generalize addI n.d.freq (divI n.off n.gone) = y at *
  generalize divI n.off n.gone = x at *
  clear r1 r2 tn
  have q0 := cell_regrown (row_atE h1 0 _ rfl)
  have q1 := cell_regrown (row_atE h1 1 _ rfl)
  have q2 := cell_regrown (row_atE h1 2 _ rfl)
  have q3 := cell_regrown (row_atE h1 3 _ rfl)
  have q4 := cell_regrown (row_atE h1 4 _ rfl)
  have q5 := cell_regrown (row_atE h1 5 _ rfl)
  have q6 := cell_regrown (row_atE h1 6 _ rfl)
  have q7 := cell_regrown (row_atE h1 7 _ rfl)
  have q8 := cell_regrown (row_atE h1 8 _ rfl)
  have q9 := cell_regrown (row_atE h1 9 _ rfl)
  have q10 := cell_regrown (row_atE h1 10 _ rfl)
  have q11 := cell_regrown (row_atE h1 11 _ rfl)
  have q15 := cell_regrown (row_atE h1 15 _ rfl)
  have q19 := cell_regrown (row_atE h1 19 _ rfl)
  have q21 := cell_regrown (row_atE h1 21 _ rfl)
  have d1 := fun d os => Calls.regrown_of (c1 (grow (redrawn W d) os))
  have d2 := fun d os => (Calls.regrown_of ((c2 (grow (redrawn W d) os)).mono fun e w' h => And.intro h.1 (h.2 ▸ Below.refl _ _)))
  have d3 := fun d os => Calls.regrown_of (c3 (grow (redrawn W d) os))
  have HH := Lib.hid (And.intro h1 (And.intro h2 hB))
  clear h1 h2 hB c1 c2 c3 hz
  unfold nw0 at hW
  go_enter Tryz.func83, Tryz.ntmps83
  go_upto_region 1 with (rw [hW])
  clear hW
  refine wp_region_below_tail 14 (by kernel_rfl) (by kernel_rfl) ?_
  simp only [List.take_succ_cons, List.take_zero, List.drop_succ_cons, List.drop_zero]
  repeat (quiet_step (first | (with_reducible exact d1 _ _) | (with_reducible exact d2 _ _) | (with_reducible exact d3 _ _)))
  refine wpQuiet_nil ?_
  intro wq hw
  replace hw := quiet_world12 hw
  clear q0 q1 q2 q3 q4 q5 q6 q7 q8 q9 q10 q11 q15 q19 q21 d1 d2 d3
  obtain ⟨h1, h2, hB⟩ := HH.out
  have k1 := (hw.block _ (Array.getElem?_eq_some_iff.1 h1).1).trans h1
  have k2 := (hw.block _ (Array.getElem?_eq_some_iff.1 h2).1).trans h2
  have BB := hB.trans (hw.mono hB.size)
  clear HH h1 h2 hB hw
  obtain ⟨m1, m2, mB⟩ := one_setE 15 (.int .i64 z) k1 k2 BB
  simp only [List.setIfInBounds_toArray, List.set_cons_zero, List.set_cons_succ] at m1
  have q15 := row_atE k1 15 _ rfl
  have th15 := row_thawE k1 15
  have HH := Lib.hid (And.intro m1 (And.intro m2 mB))
  clear k1 k2 BB m1 m2 mB
  go_upto_region 2 with fail
  obtain ⟨h1, h2, hB⟩ := HH.out
  clear q15 th15
  generalize wq.setCell ⟨w.heap.size, 15, none⟩ (.int .i64 z) = W1 at *
  go_wp2_with (first | (refine at_load_E rfl Tryz.underlying63 info_nwE rfl _ rfl _ rfl h1 rfl ?_) | (refine at_store_E info_nwE rfl _ _ rfl _ rfl rfl h2 rfl rfl one ?_))
  exact bodyPost_ret (results_cellE Tryz.results83 _ rfl (loadVar_E rfl Tryz.underlying63 info_nwE (setRow_heap W1 _ _ _ _ _ h2) rfl)) rfl ⟨rfl, below_setRowE hB (by omega) _⟩
set_option maxRecDepth 100000 in
set_option maxHeartbeats 12800000 in
theorem nturn_any (n : Nw) (tn : n.Typed) (w : World) :
    Calls Tryz.prog 77 #[n.val] w fun e w' => e = .returned (Nw.val { n with d := { n.d with freq := holdL n.p (addI n.d.freq (turnL n.p n.d n.off n.gone n.poll)), wan := smoothL n.d.wan (subI (holdL n.p (addI n.d.freq (turnL n.p n.d n.off n.gone n.poll))) n.d.freq) } }) ∧ Below w.heap.size w w' := by
  obtain ⟨W, hW⟩ : ∃ W, (w.alloc (.cells (nwC n) 63)).alloc (.cells nw0 63) = W := ⟨_, rfl⟩
  obtain ⟨h1, h2, hB, hz⟩ := two_newE _ _ _ _ _ _ hW
  have c1 := lpturn_any n.p tn.p n.d tn.d n.off n.gone n.poll tn.off tn.gone tn.poll
  have r1 := rangeU19 n.p n.d n.off n.gone n.poll
  have c2 := add_any n.d.freq (turnL n.p n.d n.off n.gone n.poll) tn.d.freq.1 tn.d.freq.2 r1.1 r1.2
  have r2 := rangeA19 n.d.freq (turnL n.p n.d n.off n.gone n.poll)
  have c3 := lphold_any n.p tn.p tn.rate (addI n.d.freq (turnL n.p n.d n.off n.gone n.poll)) r2
  have r3 : -9223372036854775808 ≤ holdL n.p (addI n.d.freq (turnL n.p n.d n.off n.gone n.poll)) ∧ holdL n.p (addI n.d.freq (turnL n.p n.d n.off n.gone n.poll)) ≤ 9223372036854775807 := rangeC19 _ _ _
  have c4 := sub_any (holdL n.p (addI n.d.freq (turnL n.p n.d n.off n.gone n.poll))) n.d.freq r3.1 r3.2 tn.d.freq.1 tn.d.freq.2
  have r4 := rangeS19 (holdL n.p (addI n.d.freq (turnL n.p n.d n.off n.gone n.poll))) n.d.freq
  have c5 := lpsmooth_any n.d.wan (subI (holdL n.p (addI n.d.freq (turnL n.p n.d n.off n.gone n.poll))) n.d.freq) tn.d.wan r4
  have one := nw_oneE { n with d := { n.d with freq := holdL n.p (addI n.d.freq (turnL n.p n.d n.off n.gone n.poll)), wan := smoothL n.d.wan (subI (holdL n.p (addI n.d.freq (turnL n.p n.d n.off n.gone n.poll))) n.d.freq) } }
  unfold Nw.val Pm.val Dc.val nwC at *
  dsimp only at *
  generalize turnL n.p n.d n.off n.gone n.poll = x at *
  generalize addI n.d.freq x = y at *
  generalize holdL n.p y = z at *
  generalize subI z n.d.freq = u at *
  generalize smoothL n.d.wan u = v at *
  clear r1 r2 r3 r4 tn
  have q0 := cell_regrown (row_atE h1 0 _ rfl)
  have q1 := cell_regrown (row_atE h1 1 _ rfl)
  have q2 := cell_regrown (row_atE h1 2 _ rfl)
  have q3 := cell_regrown (row_atE h1 3 _ rfl)
  have q4 := cell_regrown (row_atE h1 4 _ rfl)
  have q5 := cell_regrown (row_atE h1 5 _ rfl)
  have q6 := cell_regrown (row_atE h1 6 _ rfl)
  have q7 := cell_regrown (row_atE h1 7 _ rfl)
  have q8 := cell_regrown (row_atE h1 8 _ rfl)
  have q9 := cell_regrown (row_atE h1 9 _ rfl)
  have q10 := cell_regrown (row_atE h1 10 _ rfl)
  have q11 := cell_regrown (row_atE h1 11 _ rfl)
  have q12 := cell_regrown (row_atE h1 12 _ rfl)
  have q13 := cell_regrown (row_atE h1 13 _ rfl)
  have q14 := cell_regrown (row_atE h1 14 _ rfl)
  have q15 := cell_regrown (row_atE h1 15 _ rfl)
  have q16 := cell_regrown (row_atE h1 16 _ rfl)
  have q17 := cell_regrown (row_atE h1 17 _ rfl)
  have q18 := cell_regrown (row_atE h1 18 _ rfl)
  have q19 := cell_regrown (row_atE h1 19 _ rfl)
  have q21 := cell_regrown (row_atE h1 21 _ rfl)
  have q22 := cell_regrown (row_atE h1 22 _ rfl)
  have d1 := fun d os => Calls.regrown_of (c1 (grow (redrawn W d) os))
  have d2 := fun d os => (Calls.regrown_of ((c2 (grow (redrawn W d) os)).mono fun e w' h => And.intro h.1 (h.2 ▸ Below.refl _ _)))
  have d3 := fun d os => Calls.regrown_of (c3 (grow (redrawn W d) os))
  have p15 := row_atE h1 15 _ rfl
  have HH := Lib.hid (And.intro h1 (And.intro h2 hB))
  clear h1 h2 hB c1 c2 c3 hz
  unfold nw0 at hW
  go_enter Tryz.func77, Tryz.ntmps77
  go_upto_region 2 with (rw [hW])
  clear hW p15
  refine wp_region_below_tail 18 (by kernel_rfl) (by kernel_rfl) ?_
  simp only [List.take_succ_cons, List.take_zero, List.drop_succ_cons, List.drop_zero]
  repeat (quiet_step (first | (with_reducible exact d1 _ _) | (with_reducible exact d2 _ _) | (with_reducible exact d3 _ _)))
  refine wpQuiet_nil ?_
  intro wq hw
  replace hw := quiet_world12 hw
  clear q0 q1 q2 q3 q4 q5 q6 q7 q8 q9 q10 q11 q12 q13 q14 q15 q16 q17 q18 q19 q21 q22 d1 d2 d3
  obtain ⟨h1, h2, hB⟩ := HH.out
  have k1 := (hw.block _ (Array.getElem?_eq_some_iff.1 h1).1).trans h1
  have k2 := (hw.block _ (Array.getElem?_eq_some_iff.1 h2).1).trans h2
  have BB := hB.trans (hw.mono hB.size)
  clear HH h1 h2 hB hw
  obtain ⟨m1, m2, mB⟩ := one_setE 15 (.int .i64 z) k1 k2 BB
  simp only [List.setIfInBounds_toArray, List.set_cons_zero, List.set_cons_succ] at m1
  have q15 := row_atE k1 15 _ rfl
  have th15 := row_thawE k1 15
  have HH := Lib.hid (And.intro m1 (And.intro m2 mB))
  clear k1 k2 BB m1 m2 mB
  go_upto_region 3 with fail
  obtain ⟨h1, h2, hB⟩ := HH.out
  clear q15 th15
  generalize wq.setCell ⟨w.heap.size, 15, none⟩ (.int .i64 z) = W1 at *
  clear HH
  have HH := Lib.hid (And.intro h1 (And.intro h2 hB))
  have q15 := cell_regrown (row_atE h1 15 _ rfl)
  have q17 := cell_regrown (row_atE h1 17 _ rfl)
  have d1 := fun d os => (Calls.regrown_of ((c4 (grow (redrawn W1 d) os)).mono fun e w' h => And.intro h.1 (h.2 ▸ Below.refl _ _)))
  have d2 := fun d os => Calls.regrown_of (c5 (grow (redrawn W1 d) os))
  clear h1 h2 hB c4 c5
  refine wp_region_below_tail 11 (by kernel_rfl) (by kernel_rfl) ?_
  simp only [List.take_succ_cons, List.take_zero, List.drop_succ_cons, List.drop_zero]
  repeat (quiet_step (first | (with_reducible exact d1 _ _) | (with_reducible exact d2 _ _)))
  refine wpQuiet_nil ?_
  intro wq hw
  replace hw := quiet_world12 hw
  clear q15 q17 d1 d2
  obtain ⟨h1, h2, hB⟩ := HH.out
  have k1 := (hw.block _ (Array.getElem?_eq_some_iff.1 h1).1).trans h1
  have k2 := (hw.block _ (Array.getElem?_eq_some_iff.1 h2).1).trans h2
  have BB := hB.trans (hw.mono hB.size)
  clear HH h1 h2 hB hw
  obtain ⟨m1, m2, mB⟩ := one_setE 17 (.int .i64 v) k1 k2 BB
  simp only [List.setIfInBounds_toArray, List.set_cons_zero, List.set_cons_succ] at m1
  have q17 := row_atE k1 17 _ rfl
  have th17 := row_thawE k1 17
  have HH := Lib.hid (And.intro m1 (And.intro m2 mB))
  clear k1 k2 BB m1 m2 mB
  go_upto_region 4 with fail
  obtain ⟨h1, h2, hB⟩ := HH.out
  clear q17 th17
  generalize wq.setCell ⟨w.heap.size, 17, none⟩ (.int .i64 v) = W2 at *
  go_wp2_with (first | (refine at_load_E rfl Tryz.underlying63 info_nwE rfl _ rfl _ rfl h1 rfl ?_) | (refine at_store_E info_nwE rfl _ _ rfl _ rfl rfl h2 rfl rfl one ?_))
  exact bodyPost_ret (results_cellE Tryz.results77 _ rfl (loadVar_E rfl Tryz.underlying63 info_nwE (setRow_heap W2 _ _ _ _ _ h2) rfl)) rfl ⟨rfl, below_setRowE hB (by omega) _⟩
end Go.Proofs.YtlidlmgmijndcaaGreat.W
