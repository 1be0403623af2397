/- Layer 19's own code, walked: to wait, to step, to take, to measure, to turn. -/
import Derived.Test.YtlidlmgmijndcaaGreatLpF
namespace Go.Proofs.YtlidlmgmijndcaaGreat.W
open Go.RowKit Go.Sort Go.WideShapes
set_option linter.unusedVariables false
set_option linter.unusedSimpArgs false
set_option maxRecDepth 100000 in
set_option maxHeartbeats 6400000 in
theorem nwait_any (n : Nw) (w : World) :
    Calls Tryz.prog 82 #[n.val] w fun e w' => e = .returned (ddV { n.d with at_ := n.at_, st := 2 } 0 0) ∧ Below w.heap.size w w' := by
  obtain ⟨W, hW⟩ : ∃ W, (w.alloc (.cells (nwC n) 63)).alloc (.cells dd0 58) = W := ⟨_, rfl⟩
  obtain ⟨h1, h2, hB, hz⟩ := two_newE _ _ _ _ _ _ hW
  have k1 := block_set 13 (.int .i64 n.at_) (block_set 12 (.int .i64 2) h1)
  have k2 := ((block_far (w := W.setCell ⟨w.heap.size, 12, none⟩ (.int .i64 2)) 13 (.int .i64 n.at_) (show w.heap.size + 1 ≠ w.heap.size by omega)).trans (block_far (w := W) 12 (.int .i64 2) (show w.heap.size + 1 ≠ w.heap.size by omega))).trans h2
  have BB := (hB.setCell (p := ⟨w.heap.size, 12, none⟩) (Nat.le_refl _) (.int .i64 2)).setCell (p := ⟨w.heap.size, 13, none⟩) (Nat.le_refl _) (.int .i64 n.at_)
  simp only [List.setIfInBounds_toArray, List.set_cons_zero, List.set_cons_succ] at k1
  have HH := Lib.hid (And.intro k1 (And.intro k2 BB))
  have q12 := row_atE h1 12 _ rfl
  have q13 := row_atE h1 13 _ rfl
  have q20 := row_atE h1 20 _ rfl
  have th12 := row_thawE h1 12
  have th13 := row_thawE h1 13
  have one := dd_oneE { n.d with at_ := n.at_, st := 2 } 0 0
  clear h1 h2 hB hz k1 k2 BB
  unfold Nw.val ddV
  unfold nwC dd0 at hW
  unfold ddC at *
  dsimp only at *
  go_enter Tryz.func82, Tryz.ntmps82
  go_upto_region 2 with (rw [hW])
  obtain ⟨k1, k2, BB⟩ := HH.out
  clear q12 q13 q20 th12 th13 HH hW
  generalize (W.setCell ⟨w.heap.size, 12, none⟩ (.int .i64 2)).setCell ⟨w.heap.size, 13, none⟩ (.int .i64 n.at_) = W2 at *
  have q12 := row_atE k1 12 _ rfl
  have q13 := row_atE k1 13 _ rfl
  have q14 := row_atE k1 14 _ rfl
  have q15 := row_atE k1 15 _ rfl
  have q16 := row_atE k1 16 _ rfl
  have q17 := row_atE k1 17 _ rfl
  have q18 := row_atE k1 18 _ rfl
  clear k1
  go_wp2_with (refine at_store_E info_ddE rfl _ _ rfl _ rfl rfl k2 rfl rfl one ?_)
  exact bodyPost_ret (results_cellE Tryz.results82 _ rfl (loadVar_E rfl Tryz.underlying58 info_ddE (setRow_heap W2 _ _ _ _ _ k2) rfl)) rfl ⟨rfl, below_setRowE BB (by omega) _⟩
/-- Four cells of a row of news, laid anew. -/
theorem four_setE {w0 W : World} {C D : Array Value} {t u : TypeId} (a b c e : Value) (h1 : W.heap[w0.heap.size]? = some (.cells C t (0, 0))) (h2 : W.heap[w0.heap.size + 1]? = some (.cells D u (0, 0))) (hB : Below w0.heap.size w0 W) :
    ((((W.setCell ⟨w0.heap.size, 12, none⟩ a).setCell ⟨w0.heap.size, 13, none⟩ b).setCell ⟨w0.heap.size, 14, none⟩ c).setCell ⟨w0.heap.size, 18, none⟩ e).heap[w0.heap.size]? = some (.cells ((((C.setIfInBounds 12 a).setIfInBounds 13 b).setIfInBounds 14 c).setIfInBounds 18 e) t (0, 0)) ∧
    ((((W.setCell ⟨w0.heap.size, 12, none⟩ a).setCell ⟨w0.heap.size, 13, none⟩ b).setCell ⟨w0.heap.size, 14, none⟩ c).setCell ⟨w0.heap.size, 18, none⟩ e).heap[w0.heap.size + 1]? = some (.cells D u (0, 0)) ∧
    Below w0.heap.size w0 ((((W.setCell ⟨w0.heap.size, 12, none⟩ a).setCell ⟨w0.heap.size, 13, none⟩ b).setCell ⟨w0.heap.size, 14, none⟩ c).setCell ⟨w0.heap.size, 18, none⟩ e) := by
  have ne : w0.heap.size + 1 ≠ w0.heap.size := by omega
  refine ⟨block_set 18 e (block_set 14 c (block_set 13 b (block_set 12 a h1))), ?_, ?_⟩
  · exact (block_far 18 e ne).trans ((block_far 14 c ne).trans ((block_far 13 b ne).trans ((block_far 12 a ne).trans h2)))
  · exact (((hB.setCell (p := ⟨w0.heap.size, 12, none⟩) (Nat.le_refl _) a).setCell (p := ⟨w0.heap.size, 13, none⟩) (Nat.le_refl _) b).setCell (p := ⟨w0.heap.size, 14, none⟩) (Nat.le_refl _) c).setCell (p := ⟨w0.heap.size, 18, none⟩) (Nat.le_refl _) e
set_option maxRecDepth 100000 in
set_option maxHeartbeats 6400000 in
theorem nstep_any (n : Nw) (st : Int) (w : World) :
    Calls Tryz.prog 81 #[n.val, .int .i64 st] w fun e w' => e = .returned (ddV (stepL n.d n.at_ st) 2 n.off) ∧ Below w.heap.size w w' := by
  obtain ⟨W, hW⟩ : ∃ W, (w.alloc (.cells (nwC n) 63)).alloc (.cells dd0 58) = W := ⟨_, rfl⟩
  obtain ⟨h1, h2, hB, hz⟩ := two_newE _ _ _ _ _ _ hW
  obtain ⟨k1, k2, BB⟩ := four_setE (.int .i64 st) (.int .i64 n.at_) (.int .i64 0) (.int .i64 0) h1 h2 hB
  simp only [List.setIfInBounds_toArray, List.set_cons_zero, List.set_cons_succ] at k1
  have HH := Lib.hid (And.intro k1 (And.intro k2 BB))
  have q12 := row_atE h1 12 _ rfl
  have q13 := row_atE h1 13 _ rfl
  have q14 := row_atE h1 14 _ rfl
  have q18 := row_atE h1 18 _ rfl
  have q20 := row_atE h1 20 _ rfl
  have th12 := row_thawE h1 12
  have th13 := row_thawE h1 13
  have th14 := row_thawE h1 14
  have th18 := row_thawE h1 18
  have one := dd_oneE (stepL n.d n.at_ st) 2 n.off
  clear h1 h2 hB hz k1 k2 BB
  unfold Nw.val ddV
  unfold nwC dd0 at hW
  unfold ddC stepL at *
  dsimp only at *
  go_enter Tryz.func81, Tryz.ntmps81
  go_upto_region 2 with (rw [hW])
  obtain ⟨k1, k2, BB⟩ := HH.out
  clear q12 q13 q14 q18 q20 th12 th13 th14 th18 HH hW
  generalize (((W.setCell ⟨w.heap.size, 12, none⟩ (.int .i64 st)).setCell ⟨w.heap.size, 13, none⟩ (.int .i64 n.at_)).setCell ⟨w.heap.size, 14, none⟩ (.int .i64 0)).setCell ⟨w.heap.size, 18, none⟩ (.int .i64 0) = W2 at *
  have q12 := row_atE k1 12 _ rfl
  have q13 := row_atE k1 13 _ rfl
  have q14 := row_atE k1 14 _ rfl
  have q15 := row_atE k1 15 _ rfl
  have q16 := row_atE k1 16 _ rfl
  have q17 := row_atE k1 17 _ rfl
  have q18 := row_atE k1 18 _ rfl
  have q19 := row_atE k1 19 _ rfl
  clear k1
  go_wp2_with (refine at_store_E info_ddE rfl _ _ rfl _ rfl rfl k2 rfl rfl one ?_)
  exact bodyPost_ret (results_cellE Tryz.results81 _ rfl (loadVar_E rfl Tryz.underlying58 info_ddE (setRow_heap W2 _ _ _ _ _ k2) rfl)) rfl ⟨rfl, below_setRowE BB (by omega) _⟩
set_option maxRecDepth 100000 in
set_option maxHeartbeats 6400000 in
theorem ntake_any (n : Nw) (tn : n.Typed) (st : Int) (w : World) :
    Calls Tryz.prog 78 #[n.val, .int .i64 st] w fun e w' => e = .returned (ddV (takeL n.d n.off n.at_ st) 1 n.off) ∧ Below w.heap.size w w' := by
  obtain ⟨W, hW⟩ : ∃ W, (w.alloc (.cells (nwC n) 63)).alloc (.cells dd0 58) = W := ⟨_, rfl⟩
  obtain ⟨h1, h2, hB, hz⟩ := two_newE _ _ _ _ _ _ hW
  have c1 := sub_any n.off n.d.off tn.off.1 tn.off.2 tn.d.off.1 tn.d.off.2
  have r1 := rangeS19 n.off n.d.off
  have c2 := lpsmooth_any n.d.jit (subI n.off n.d.off) tn.d.jit r1
  have one := dd_oneE (takeL n.d n.off n.at_ st) 1 n.off
  unfold ddV ddC takeL at *
  dsimp only at *
  generalize smoothL n.d.jit (subI n.off n.d.off) = y at *
  generalize subI n.off n.d.off = x at *
  clear r1 tn
  have q14 := cell_regrown (row_atE h1 14 _ rfl)
  have q16 := cell_regrown (row_atE h1 16 _ rfl)
  have q19 := cell_regrown (row_atE h1 19 _ rfl)
  have d1 := fun d os => (Calls.regrown_of ((c1 (grow (redrawn W d) os)).mono fun e w' h => And.intro h.1 (h.2 ▸ Below.refl _ _)))
  have d2 := fun d os => Calls.regrown_of (c2 (grow (redrawn W d) os))
  have HH := Lib.hid (And.intro h1 (And.intro h2 (And.intro hB hz)))
  clear h1 h2 hB hz c1 c2
  unfold Nw.val
  unfold nwC dd0 at hW
  go_enter Tryz.func78, Tryz.ntmps78
  go_upto_region 1 with (rw [hW])
  clear hW
  refine wp_region_below_tail 12 (by kernel_rfl) (by kernel_rfl) ?_
  simp only [List.take_succ_cons, List.take_zero, List.drop_succ_cons, List.drop_zero]
  repeat (quiet_step (first | (with_reducible exact d1 _ _) | (with_reducible exact d2 _ _)))
  refine wpQuiet_nil ?_
  intro w2 hw
  replace hw := quiet_world12 hw
  clear q14 q16 q19 d1 d2
  obtain ⟨h1, h2, hB, hz⟩ := HH.out
  have k1 := (hw.block _ (by omega)).trans h1
  have k2 := (hw.block _ (by omega)).trans h2
  have BB := hB.trans (hw.mono hB.size)
  clear HH h1 h2 hB hw
  have m1 := block_set 16 (.int .i64 y) k1
  simp only [List.setIfInBounds_toArray, List.set_cons_zero, List.set_cons_succ] at m1
  have m2 := (block_far (w := w2) 16 (.int .i64 y) (show w.heap.size + 1 ≠ w.heap.size by omega)).trans k2
  have mB := BB.setCell (p := ⟨w.heap.size, 16, none⟩) (Nat.le_refl _) (.int .i64 y)
  have q16 := row_atE k1 16 _ rfl
  have th16 := row_thawE k1 16
  have HH := Lib.hid (And.intro m1 (And.intro m2 mB))
  clear k1 k2 BB m1 m2 mB
  go_upto_region 2 with fail
  obtain ⟨h1, h2, hB⟩ := HH.out
  clear HH q16 th16
  generalize w2.setCell ⟨w.heap.size, 16, none⟩ (.int .i64 y) = W1 at *
  obtain ⟨k1, k2, BB⟩ := four_setE (.int .i64 st) (.int .i64 n.at_) (.int .i64 n.off) (.int .i64 n.off) h1 h2 hB
  simp only [List.setIfInBounds_toArray, List.set_cons_zero, List.set_cons_succ] at k1
  have HH := Lib.hid (And.intro k1 (And.intro k2 BB))
  have q12 := row_atE h1 12 _ rfl
  have q13 := row_atE h1 13 _ rfl
  have q14 := row_atE h1 14 _ rfl
  have q18 := row_atE h1 18 _ rfl
  have q19 := row_atE h1 19 _ rfl
  have q20 := row_atE h1 20 _ rfl
  have th12 := row_thawE h1 12
  have th13 := row_thawE h1 13
  have th14 := row_thawE h1 14
  have th18 := row_thawE h1 18
  clear h1 h2 hB hz k1 k2 BB
  go_upto_region 3 with fail
  obtain ⟨k1, k2, BB⟩ := HH.out
  clear q12 q13 q14 q18 q19 q20 th12 th13 th14 th18 HH
  generalize (((W1.setCell ⟨w.heap.size, 12, none⟩ (.int .i64 st)).setCell ⟨w.heap.size, 13, none⟩ (.int .i64 n.at_)).setCell ⟨w.heap.size, 14, none⟩ (.int .i64 n.off)).setCell ⟨w.heap.size, 18, none⟩ (.int .i64 n.off) = W2 at *
  have q12 := row_atE k1 12 _ rfl
  have q13 := row_atE k1 13 _ rfl
  have q14 := row_atE k1 14 _ rfl
  have q15 := row_atE k1 15 _ rfl
  have q16 := row_atE k1 16 _ rfl
  have q17 := row_atE k1 17 _ rfl
  have q18 := row_atE k1 18 _ rfl
  have q19 := row_atE k1 19 _ rfl
  clear k1
  go_wp2_with (refine at_store_E info_ddE rfl _ _ rfl _ rfl rfl k2 rfl rfl one ?_)
  exact bodyPost_ret (results_cellE Tryz.results78 _ rfl (loadVar_E rfl Tryz.underlying58 info_ddE (setRow_heap W2 _ _ _ _ _ k2) rfl)) rfl ⟨rfl, below_setRowE BB (by omega) _⟩
end Go.Proofs.YtlidlmgmijndcaaGreat.W
