import Derived.Test.YtiadaaihlimloaaGreatFwI
/- Layer 14's own code, walked: Take (written by wip/genFwJ.py). -/
namespace Go.Proofs.YtiadaaihlimloaaGreat.W
open Go.RowKit Go.Sort
set_option linter.unusedVariables false
set_option linter.unusedSimpArgs false
theorem info_tdJ : (Tryz.prog.info? 33).map (·.size) = some 5 := by kernel_rfl
theorem load_tdJ {w : World} {b : Nat} {C : Array Value} {t : TypeId} (h : w.heap[b]? = some (.cells C t (0, 0))) (hC : C.size = 5) : (loadVar 33 ⟨b, 0, none⟩).run Tryz.prog w = .ok (.agg C) w :=
  run_loadVar_row (P := Tryz.prog) w b t 33 C (0, 0) _ h Tryz.underlying33 rfl (by rw [info_tdJ, hC])
theorem load_flJ {w : World} {b : Nat} {f : Fl} (h : rowOf w b = f.cells) : (loadVar 29 ⟨b, 0, none⟩).run Tryz.prog w = .ok (.agg f.cells) w := by
  obtain ⟨t, he⟩ := heap_rowOf (n := 46) (by rw [h]; rfl) (by decide)
  rw [h] at he
  exact run_loadVar_row (P := Tryz.prog) w b t 29 f.cells (0, 0) _ he Tryz.underlying29 rfl info_fl
theorem below_rowJ {n : Nat} {w X : World} {b : Nat} (C : Array Value) (h : Below n w X) (hb : n ≤ b) : Below n w (X.setRow b C) :=
  ⟨h.os, h.tape, h.output, by simpa [World.setRow] using h.size, fun k hk => (setRow_other X b k C (by omega)).trans (h.block k hk)⟩
/-- A cell of a row, written. -/
theorem rowOf_cell {w : World} {b n : Nat} (j : Nat) (v : Value) (h : (rowOf w b).size = n) (hn : 0 < n) : rowOf (w.setCell ⟨b, j, none⟩ v) b = (rowOf w b).setIfInBounds j v := by
  obtain ⟨t, he⟩ := heap_rowOf h hn
  exact rowOf_heap (block_set j v he)
theorem frozen_row {w : World} {b : Nat} {f : Fl} (h : rowOf w b = f.cells) (j : Nat) : w.frozen? ⟨b, j, none⟩ = false := by
  obtain ⟨t, he⟩ := heap_rowOf (n := 46) (by rw [h]; rfl) (by decide)
  simp [World.frozen?, he]
section
variable {ops : Array Oper} {rest : List Oper} {o : Oper} {a : Act} {w : World} {Q : Exit → Act → World → Prop}
theorem at_load_flW (hw : Region.wanted o (yielded ops a.tmps) = true) (x : Operand) (ho : o.op = .load 29 x) (b : Nat) (hx : a.eval x = .pointer (some ⟨b, 0, none⟩)) (f : Fl) (hf : rowOf w b = f.cells) (h : wpList Tryz.prog ops Q rest (a.put o.dst (.agg f.cells)) w) : wpList Tryz.prog ops Q (o :: rest) a w :=
  wpList_step fun K hK => by
    rw [if_pos hw]
    unfold Oper.wp execOp
    simp only [ho, hx, Sem.run_bind, load_fl w b (by rw [hf]; rfl), Result.andThen_ok, Sem.run_pure]
    rw [hf]
    exact hK _ _ h
end
theorem op_load_fl {ops : Array Oper} {o : Oper} {a : Act} {w : World} {K : Act → World → Prop} {Q : Exit → Act → World → Prop} (hw : Region.wanted o (yielded ops a.tmps) = true) (x : Operand) (ho : o.op = .load 29 x) (b : Nat) (hx : a.eval x = .pointer (some ⟨b, 0, none⟩)) (f : Fl) (hf : rowOf w b = f.cells) (h : K (a.put o.dst (.agg f.cells)) w) :
    if Region.wanted o (yielded ops a.tmps) = true then Oper.wp Tryz.prog o a w K Q else K (a.put o.dst undef) w := by
  rw [if_pos hw]
  unfold Oper.wp execOp
  simp only [ho, hx, Sem.run_bind, load_fl w b (by rw [hf]; rfl), Result.andThen_ok, Sem.run_pure]
  rw [hf]
  exact h
theorem op_store_fl {ops : Array Oper} {o : Oper} {a : Act} {w : World} {K : Act → World → Prop} {Q : Exit → Act → World → Prop} (hw : Region.wanted o (yielded ops a.tmps) = true) (x y : Operand) (ho : o.op = .store 29 x y) (b : Nat) (hx : a.eval x = .pointer (some ⟨b, 0, none⟩)) (g : Fl) (hy : a.eval y = .agg g.cells) (f : Fl) (hf : rowOf w b = f.cells) (h : K (a.put o.dst undef) (w.setRow b g.cells)) :
    if Region.wanted o (yielded ops a.tmps) = true then Oper.wp Tryz.prog o a w K Q else K (a.put o.dst undef) w := by
  rw [if_pos hw]
  unfold Oper.wp execOp
  simp only [ho, hx, hy, Sem.run_bind, store_fl w b g.cells (by rw [hf]; rfl) rfl (fl_one g), Result.andThen_ok, Sem.run_pure]
  exact h
/-- What Take answers, from its cells. -/
theorem take_results {w : World} {a b : Nat} {g : Fl} {C : Array Value} {t : TypeId} {x : Int} {tmps : Array Value} (hg : rowOf w a = g.cells) (hC : w.heap[b]? = some (.cells C t (0, 0))) (h5 : C.size = 5)
    (h12 : tmps[12]? = some (.pointer (some ⟨a, 0, none⟩))) (h13 : tmps[13]? = some (.pointer (some ⟨b, 0, none⟩))) (h14 : tmps[14]? = some (.int .i64 x)) :
    (results Tryz.f10 tmps).run Tryz.prog w = .ok (.tuple #[.agg g.cells, .agg C, .int .i64 x]) w := by
  have l1 := load_flJ hg
  have l2 := load_tdJ hC h5
  simp [results, Tryz.results10, h12, h13, h14, l1, l2, asAddr, Sem.run_bind, Sem.run_pure, Result.andThen_ok]
/-- Cells of one block, written one behind the other. -/
def setL (W : World) (b : Nat) : List (Nat × Value) → World
  | [] => W
  | x :: l => setL (W.setCell ⟨b, x.1, none⟩ x.2) b l
def setA (C : Array Value) : List (Nat × Value) → Array Value
  | [] => C
  | x :: l => setA (C.setIfInBounds x.1 x.2) l
theorem setL_far (b k : Nat) (h : k ≠ b) : ∀ (l : List (Nat × Value)) (W : World), (setL W b l).heap[k]? = W.heap[k]?
  | [], _ => rfl
  | x :: l, W => (setL_far b k h l _).trans (block_far _ _ h)
theorem setL_row {b n : Nat} (hn : 0 < n) : ∀ (l : List (Nat × Value)) (W : World), (rowOf W b).size = n → rowOf (setL W b l) b = setA (rowOf W b) l
  | [], _, _ => rfl
  | x :: l, W, h => by
    have e := rowOf_cell x.1 x.2 h hn
    have ih := setL_row hn l (W.setCell ⟨b, x.1, none⟩ x.2) (by rw [e, Array.size_setIfInBounds, h])
    rw [e] at ih
    exact ih
theorem setL_below {w : World} {b n : Nat} (ha : n ≤ b) : ∀ (l : List (Nat × Value)) (W : World), Below n w W → Below n w (setL W b l)
  | [], _, h => h
  | x :: l, W, h => setL_below ha l _ (h.setCell (p := ⟨b, x.1, none⟩) ha _)
def takeL (T : Told) (total : Int) : List (Nat × Value) := [(41, .bool true), (42, .int .i64 T.at_), (43, .int .i64 T.off), (44, .int .i64 total), (45, .int .i64 T.jit)]
theorem takeL_cells (f : Fl) (T : Told) (total : Int) : setA f.cells (takeL T total) = (Fl.mk f.l true T.at_ T.off total T.jit).cells := rfl
theorem takeL_is (W : World) (b : Nat) (T : Told) (total : Int) : setL W b (takeL T total) = ((((W.setCell ⟨b, 41, none⟩ (.bool true)).setCell ⟨b, 42, none⟩ (.int .i64 T.at_)).setCell ⟨b, 43, none⟩ (.int .i64 T.off)).setCell ⟨b, 44, none⟩ (.int .i64 total)).setCell ⟨b, 45, none⟩ (.int .i64 T.jit) := rfl
theorem take_world {w w5 : World} {f : Fl} {a b c d : Nat} {C D : Array Value} {t u : TypeId} (T : Told) (total : Int) (m2 : rowOf w5 a = f.cells) (m3 : rowOf w5 b = Fl.zero.cells) (m4 : w5.heap[c]? = some (.cells C t (0, 0))) (m5 : w5.heap[d]? = some (.cells D u (0, 0)))
    (hB : Below w.heap.size w w5) (hb : b ≠ a) (hc : c ≠ a) (hd : d ≠ a) (ha : w.heap.size ≤ a) :
    rowOf (setL w5 a (takeL T total)).drew a = (Fl.mk f.l true T.at_ T.off total T.jit).cells ∧ rowOf (setL w5 a (takeL T total)).drew b = Fl.zero.cells ∧ (setL w5 a (takeL T total)).drew.heap[c]? = some (.cells C t (0, 0)) ∧ (setL w5 a (takeL T total)).drew.heap[d]? = some (.cells D u (0, 0)) ∧ Below w.heap.size w (setL w5 a (takeL T total)).drew ∧ c < (setL w5 a (takeL T total)).drew.heap.size := by
  have k2 := setL_row (n := 46) (by decide) (takeL T total) w5 (b := a) (by rw [m2]; rfl)
  rw [m2, takeL_cells] at k2
  have k3 := (row_same (setL_far a b hb (takeL T total) w5)).trans m3
  have k4 := (setL_far a c hc (takeL T total) w5).trans m4
  have k5 := (setL_far a d hd (takeL T total) w5).trans m5
  have k6 := setL_below ha (takeL T total) w5 hB
  generalize setL w5 a (takeL T total) = W at *
  exact ⟨k2, k3, k4, k5, below_drewN k6 1, (Array.getElem?_eq_some_iff.1 k4).1⟩
theorem tell_off (p : Pm) (f : Fl) (own at_ total : Int) : -9223372036854775808 ≤ (tellT p f own at_ total).off ∧ (tellT p f own at_ total).off ≤ 9223372036854775807 := by
  unfold tellT
  split
  · exact ⟨by unfold Told.zero; decide, by unfold Told.zero; decide⟩
  · have := subI_range (bestS f.l).off (subI total (bestS f.l).total)
    dsimp only [moveI]
    omega
set_option maxRecDepth 100000 in
set_option maxHeartbeats 12800000 in
theorem take_none (p : Pm) (f : Fl) (own poll at_ total : Int) (T : Told) (w : World) (ct : ∀ w, Calls Tryz.prog 12 #[.agg (pmC p), .agg f.cells, .int .i64 own, .int .i64 at_, .int .i64 total] w fun e w' => e = .returned (.tuple #[.agg #[.int .i64 T.off, .int .i64 T.del, .int .i64 T.disp, .int .i64 T.jit, .int .i64 T.at_], .bool false]) ∧ Below w.heap.size w w') :
    Calls Tryz.prog 10 #[.agg (pmC p), .agg f.cells, .int .i64 own, .int .i64 poll, .int .i64 at_, .int .i64 total] w fun e w' => e = .returned (.tuple #[.agg f.cells, .agg #[.int .i64 0, .int .i64 0, .int .i64 0, .int .i64 0, .int .i64 0], .int .i64 3]) ∧ Below w.heap.size w w' := by
  obtain ⟨wd, hwd⟩ : ∃ wd, (((w.alloc (.cells (pmC p) 38)).alloc (.cells f.cells 29)).alloc (.cells Fl.zero.cells 29)).alloc (.cells #[.int .i64 0, .int .i64 0, .int .i64 0, .int .i64 0, .int .i64 0] 33) = wd := ⟨_, rfl⟩
  obtain ⟨g1, g2, g3, g4, hB, hz⟩ := four_new _ _ _ _ _ _ _ _ _ _ hwd
  replace g2 := rowOf_heap g2
  replace g3 := rowOf_heap g3
  unfold pmC at hwd g1
  obtain ⟨q0, q1, q2, q3, q4, q5, q6, q7, q8, q9, q10, q11⟩ := twelve_at g1
  go_enter Tryz.func10, Tryz.ntmps10
  go_wp2_with (first | (refine at_alloc_fl rfl rfl ?_) | (rw [hwd]) | (refine at_load_fl rfl _ rfl _ rfl _ (by assumption) ?_))
  (with_reducible refine (ct _).mono ?_)
  rintro e w4 ⟨rfl, hB4⟩
  have k2 := fl_kept g2 hB4
  have k3 := fl_kept g3 hB4
  have k4 := (hB4.block _ (by omega)).trans g4
  have hB5 := hB.trans (hB4.mono hB.size)
  have z4 := hB4.size
  obtain ⟨w5, hw5⟩ : ∃ w5, w4.alloc (.cells #[.int .i64 T.off, .int .i64 T.del, .int .i64 T.disp, .int .i64 T.jit, .int .i64 T.at_] 33) = w5 := ⟨_, rfl⟩
  have m2 := fl_kept k2 ((Below.refl _ w4).alloc (Nat.le_refl _) (.cells #[.int .i64 T.off, .int .i64 T.del, .int .i64 T.disp, .int .i64 T.jit, .int .i64 T.at_] 33))
  have m3 := fl_kept k3 ((Below.refl _ w4).alloc (Nat.le_refl _) (.cells #[.int .i64 T.off, .int .i64 T.del, .int .i64 T.disp, .int .i64 T.jit, .int .i64 T.at_] 33))
  have m4 := (Below.heap_alloc w4 (.cells #[.int .i64 T.off, .int .i64 T.del, .int .i64 T.disp, .int .i64 T.jit, .int .i64 T.at_] 33) _ (by omega)).trans k4
  have m5 := heap_alloc_new w4 (.cells #[.int .i64 T.off, .int .i64 T.del, .int .i64 T.disp, .int .i64 T.jit, .int .i64 T.at_] 33)
  have hB6 := hB5.alloc (by omega) (.cells #[.int .i64 T.off, .int .i64 T.del, .int .i64 T.disp, .int .i64 T.jit, .int .i64 T.at_] 33)
  have z5 := World.size_alloc w4 (.cells #[.int .i64 T.off, .int .i64 T.del, .int .i64 T.disp, .int .i64 T.jit, .int .i64 T.at_] 33)
  rw [hw5] at m2 m3 m4 m5 hB6 z5
  clear hwd g1 g2 g3 g4 hB k2 k3 k4 hB4 hB5 ct q0 q1 q2 q3 q4 q5 q6 q7 q8 q9 q10 q11
  go_upto_if 26 with (rw [hw5])
  have n2 : (rowOf w5 (w.heap.size + 1 + 1)).size = 46 := by rw [m3]; rfl
  have r2 := rowOf_set f.cells n2 (by decide)
  have r4 := (setRow_other w5 (w.heap.size + 1 + 1) (w.heap.size + 1 + 1 + 1) f.cells (by omega)).trans m4
  have hB8 := below_rowJ f.cells hB6 (show w.heap.size ≤ w.heap.size + 1 + 1 by omega)
  obtain ⟨⟨c0, c1, c2, c3, c4⟩, fr⟩ := five_at14 r4
  obtain ⟨⟨s0, s1, s2, s3, s4⟩, _⟩ := five_at14 m5
  obtain ⟨u0, u1, u2, u3, u4⟩ := used_at m2
  have H := Lib.hid (And.intro r2 (And.intro r4 hB8))
  clear n2 r2 r4 m4 m5 hB6 hB8
  go_wp2_with (first | (refine at_store_fl rfl _ _ rfl _ rfl _ rfl _ (by assumption) ?_) | (refine at_load_fl rfl _ rfl _ rfl _ (by assumption) ?_))
  obtain ⟨r2, r4, hB8⟩ := H.out
  have e4 := put5_at (a := .int .i64 0) (b := .int .i64 0) (c := .int .i64 0) (d := .int .i64 0) (e := .int .i64 0) r4
  have e2 := (row_same (put5_far (a := .int .i64 0) (b := .int .i64 0) (c := .int .i64 0) (d := .int .i64 0) (e := .int .i64 0) (show w.heap.size + 1 + 1 ≠ w.heap.size + 1 + 1 + 1 by omega))).trans r2
  have hBf := put5_below hB8 (w.heap.size + 1 + 1 + 1) (by omega) (.int .i64 0) (.int .i64 0) (.int .i64 0) (.int .i64 0) (.int .i64 0)
  exact bodyPost_ret (take_results e2 e4 rfl rfl rfl rfl) rfl ⟨rfl, hBf⟩
set_option maxRecDepth 100000 in
set_option maxHeartbeats 12800000 in
theorem take_stale (p : Pm) (f : Fl) (own poll at_ total : Int) (T : Told) (w : World) (ct : ∀ w, Calls Tryz.prog 12 #[.agg (pmC p), .agg f.cells, .int .i64 own, .int .i64 at_, .int .i64 total] w fun e w' => e = .returned (.tuple #[.agg #[.int .i64 T.off, .int .i64 T.del, .int .i64 T.disp, .int .i64 T.jit, .int .i64 T.at_], .bool true]) ∧ Below w.heap.size w w') (hh : f.had = true) (h1 : T.at_ ≤ f.used) :
    Calls Tryz.prog 10 #[.agg (pmC p), .agg f.cells, .int .i64 own, .int .i64 poll, .int .i64 at_, .int .i64 total] w fun e w' => e = .returned (.tuple #[.agg f.cells, .agg #[.int .i64 0, .int .i64 0, .int .i64 0, .int .i64 0, .int .i64 0], .int .i64 140]) ∧ Below w.heap.size w w' := by
  obtain ⟨wd, hwd⟩ : ∃ wd, (((w.alloc (.cells (pmC p) 38)).alloc (.cells f.cells 29)).alloc (.cells Fl.zero.cells 29)).alloc (.cells #[.int .i64 0, .int .i64 0, .int .i64 0, .int .i64 0, .int .i64 0] 33) = wd := ⟨_, rfl⟩
  obtain ⟨g1, g2, g3, g4, hB, hz⟩ := four_new _ _ _ _ _ _ _ _ _ _ hwd
  replace g2 := rowOf_heap g2
  replace g3 := rowOf_heap g3
  unfold pmC at hwd g1
  obtain ⟨q0, q1, q2, q3, q4, q5, q6, q7, q8, q9, q10, q11⟩ := twelve_at g1
  go_enter Tryz.func10, Tryz.ntmps10
  go_wp2_with (first | (refine at_alloc_fl rfl rfl ?_) | (rw [hwd]) | (refine at_load_fl rfl _ rfl _ rfl _ (by assumption) ?_))
  (with_reducible refine (ct _).mono ?_)
  rintro e w4 ⟨rfl, hB4⟩
  have k2 := fl_kept g2 hB4
  have k3 := fl_kept g3 hB4
  have k4 := (hB4.block _ (by omega)).trans g4
  have hB5 := hB.trans (hB4.mono hB.size)
  have z4 := hB4.size
  obtain ⟨w5, hw5⟩ : ∃ w5, w4.alloc (.cells #[.int .i64 T.off, .int .i64 T.del, .int .i64 T.disp, .int .i64 T.jit, .int .i64 T.at_] 33) = w5 := ⟨_, rfl⟩
  have m2 := fl_kept k2 ((Below.refl _ w4).alloc (Nat.le_refl _) (.cells #[.int .i64 T.off, .int .i64 T.del, .int .i64 T.disp, .int .i64 T.jit, .int .i64 T.at_] 33))
  have m3 := fl_kept k3 ((Below.refl _ w4).alloc (Nat.le_refl _) (.cells #[.int .i64 T.off, .int .i64 T.del, .int .i64 T.disp, .int .i64 T.jit, .int .i64 T.at_] 33))
  have m4 := (Below.heap_alloc w4 (.cells #[.int .i64 T.off, .int .i64 T.del, .int .i64 T.disp, .int .i64 T.jit, .int .i64 T.at_] 33) _ (by omega)).trans k4
  have m5 := heap_alloc_new w4 (.cells #[.int .i64 T.off, .int .i64 T.del, .int .i64 T.disp, .int .i64 T.jit, .int .i64 T.at_] 33)
  have hB6 := hB5.alloc (by omega) (.cells #[.int .i64 T.off, .int .i64 T.del, .int .i64 T.disp, .int .i64 T.jit, .int .i64 T.at_] 33)
  have z5 := World.size_alloc w4 (.cells #[.int .i64 T.off, .int .i64 T.del, .int .i64 T.disp, .int .i64 T.jit, .int .i64 T.at_] 33)
  rw [hw5] at m2 m3 m4 m5 hB6 z5
  clear hwd g1 g2 g3 g4 hB k2 k3 k4 hB4 hB5 ct q0 q1 q2 q3 q4 q5 q6 q7 q8 q9 q10 q11
  go_upto_if 26 with (rw [hw5])
  have n2 : (rowOf w5 (w.heap.size + 1 + 1)).size = 46 := by rw [m3]; rfl
  have r2 := rowOf_set f.cells n2 (by decide)
  have r4 := (setRow_other w5 (w.heap.size + 1 + 1) (w.heap.size + 1 + 1 + 1) f.cells (by omega)).trans m4
  have hB8 := below_rowJ f.cells hB6 (show w.heap.size ≤ w.heap.size + 1 + 1 by omega)
  obtain ⟨⟨c0, c1, c2, c3, c4⟩, fr⟩ := five_at14 r4
  obtain ⟨⟨s0, s1, s2, s3, s4⟩, _⟩ := five_at14 m5
  obtain ⟨u0, u1, u2, u3, u4⟩ := used_at m2
  have H := Lib.hid (And.intro r2 (And.intro r4 hB8))
  clear n2 r2 r4 m4 m5 hB6 hB8
  rw [hh] at u0
  clear hh
  go_wp2_with (first | (refine at_store_fl rfl _ _ rfl _ rfl _ rfl _ (by assumption) ?_) | (refine at_load_fl rfl _ rfl _ rfl _ (by assumption) ?_))
  obtain ⟨r2, r4, hB8⟩ := H.out
  have e4 := put5_at (a := .int .i64 0) (b := .int .i64 0) (c := .int .i64 0) (d := .int .i64 0) (e := .int .i64 0) r4
  have e2 := (row_same (put5_far (a := .int .i64 0) (b := .int .i64 0) (c := .int .i64 0) (d := .int .i64 0) (e := .int .i64 0) (show w.heap.size + 1 + 1 ≠ w.heap.size + 1 + 1 + 1 by omega))).trans r2
  have hBf := put5_below hB8 (w.heap.size + 1 + 1 + 1) (by omega) (.int .i64 0) (.int .i64 0) (.int .i64 0) (.int .i64 0) (.int .i64 0)
  exact bodyPost_ret (take_results e2 e4 rfl rfl rfl rfl) rfl ⟨rfl, hBf⟩
set_option maxRecDepth 100000 in
set_option maxHeartbeats 12800000 in
theorem take_spike (p : Pm) (f : Fl) (own poll at_ total : Int) (T : Told) (w : World) (ct : ∀ w, Calls Tryz.prog 12 #[.agg (pmC p), .agg f.cells, .int .i64 own, .int .i64 at_, .int .i64 total] w fun e w' => e = .returned (.tuple #[.agg #[.int .i64 T.off, .int .i64 T.del, .int .i64 T.disp, .int .i64 T.jit, .int .i64 T.at_], .bool true]) ∧ Below w.heap.size w w') (hh : f.had = true) (h1 : ¬ T.at_ ≤ f.used) (cf : ∀ w, Calls Tryz.prog 14 #[.agg f.cells, .int .i64 T.off, .int .i64 total] w fun e w' => e = .returned (.bool true) ∧ Below w.heap.size w w') (cs : ∀ w, Calls Tryz.prog 15 #[.agg f.cells, .int .i64 poll, .int .i64 at_] w fun e w' => e = .returned (.bool true) ∧ Below w.heap.size w w') :
    Calls Tryz.prog 10 #[.agg (pmC p), .agg f.cells, .int .i64 own, .int .i64 poll, .int .i64 at_, .int .i64 total] w fun e w' => e = .returned (.tuple #[.agg f.cells, .agg #[.int .i64 0, .int .i64 0, .int .i64 0, .int .i64 0, .int .i64 0], .int .i64 141]) ∧ Below w.heap.size w w' := by
  obtain ⟨wd, hwd⟩ : ∃ wd, (((w.alloc (.cells (pmC p) 38)).alloc (.cells f.cells 29)).alloc (.cells Fl.zero.cells 29)).alloc (.cells #[.int .i64 0, .int .i64 0, .int .i64 0, .int .i64 0, .int .i64 0] 33) = wd := ⟨_, rfl⟩
  obtain ⟨g1, g2, g3, g4, hB, hz⟩ := four_new _ _ _ _ _ _ _ _ _ _ hwd
  replace g2 := rowOf_heap g2
  replace g3 := rowOf_heap g3
  unfold pmC at hwd g1
  obtain ⟨q0, q1, q2, q3, q4, q5, q6, q7, q8, q9, q10, q11⟩ := twelve_at g1
  go_enter Tryz.func10, Tryz.ntmps10
  go_wp2_with (first | (refine at_alloc_fl rfl rfl ?_) | (rw [hwd]) | (refine at_load_fl rfl _ rfl _ rfl _ (by assumption) ?_))
  (with_reducible refine (ct _).mono ?_)
  rintro e w4 ⟨rfl, hB4⟩
  have k2 := fl_kept g2 hB4
  have k3 := fl_kept g3 hB4
  have k4 := (hB4.block _ (by omega)).trans g4
  have hB5 := hB.trans (hB4.mono hB.size)
  have z4 := hB4.size
  obtain ⟨w5, hw5⟩ : ∃ w5, w4.alloc (.cells #[.int .i64 T.off, .int .i64 T.del, .int .i64 T.disp, .int .i64 T.jit, .int .i64 T.at_] 33) = w5 := ⟨_, rfl⟩
  have m2 := fl_kept k2 ((Below.refl _ w4).alloc (Nat.le_refl _) (.cells #[.int .i64 T.off, .int .i64 T.del, .int .i64 T.disp, .int .i64 T.jit, .int .i64 T.at_] 33))
  have m3 := fl_kept k3 ((Below.refl _ w4).alloc (Nat.le_refl _) (.cells #[.int .i64 T.off, .int .i64 T.del, .int .i64 T.disp, .int .i64 T.jit, .int .i64 T.at_] 33))
  have m4 := (Below.heap_alloc w4 (.cells #[.int .i64 T.off, .int .i64 T.del, .int .i64 T.disp, .int .i64 T.jit, .int .i64 T.at_] 33) _ (by omega)).trans k4
  have m5 := heap_alloc_new w4 (.cells #[.int .i64 T.off, .int .i64 T.del, .int .i64 T.disp, .int .i64 T.jit, .int .i64 T.at_] 33)
  have hB6 := hB5.alloc (by omega) (.cells #[.int .i64 T.off, .int .i64 T.del, .int .i64 T.disp, .int .i64 T.jit, .int .i64 T.at_] 33)
  have z5 := World.size_alloc w4 (.cells #[.int .i64 T.off, .int .i64 T.del, .int .i64 T.disp, .int .i64 T.jit, .int .i64 T.at_] 33)
  rw [hw5] at m2 m3 m4 m5 hB6 z5
  clear hwd g1 g2 g3 g4 hB k2 k3 k4 hB4 hB5 ct q0 q1 q2 q3 q4 q5 q6 q7 q8 q9 q10 q11
  go_upto_if 26 with (rw [hw5])
  obtain ⟨⟨s0, s1, s2, s3, s4⟩, _⟩ := five_at14 m5
  obtain ⟨u0, u1, u2, u3, u4⟩ := used_at m2
  rw [hh] at u0
  clear hh
  go_wp2_with (refine at_load_flW (by rfl) _ rfl _ rfl _ (by assumption) ?_)
  (with_reducible refine (cf _).mono ?_)
  rintro e w6 ⟨rfl, hB9⟩
  have z6 := hB9.size
  have n2 := fl_kept m2 hB9
  have n3 := fl_kept m3 hB9
  have n4 := (hB9.block _ (by omega)).trans m4
  have n5 := (hB9.block _ (by omega)).trans m5
  have hB7 := hB6.trans (hB9.mono hB6.size)
  clear m2 m3 m4 m5 hB6 hB9 s0 s1 s2 s3 s4 u0 u1 u2 u3 u4 cf
  obtain ⟨m2, m3, m4, m5, hB6⟩ := And.intro n2 (And.intro n3 (And.intro n4 (And.intro n5 hB7)))
  clear n2 n3 n4 n5 hB7
  generalize w5 = w5' at *
  obtain ⟨w5, hw56⟩ : ∃ w5, w5 = w6 := ⟨_, rfl⟩
  subst hw56
  go_wp2_with (refine at_load_flW (by rfl) _ rfl _ rfl _ (by assumption) ?_)
  (with_reducible refine (cs _).mono ?_)
  rintro e w6 ⟨rfl, hB9⟩
  have z7 := hB9.size
  have n2 := fl_kept m2 hB9
  have n3 := fl_kept m3 hB9
  have n4 := (hB9.block _ (by omega)).trans m4
  have n5 := (hB9.block _ (by omega)).trans m5
  have hB7 := hB6.trans (hB9.mono hB6.size)
  clear m2 m3 m4 m5 hB6 hB9 cs
  obtain ⟨m2, m3, m4, m5, hB6⟩ := And.intro n2 (And.intro n3 (And.intro n4 (And.intro n5 hB7)))
  clear n2 n3 n4 n5 hB7
  generalize w5 = w5'' at *
  obtain ⟨w5, hw56⟩ : ∃ w5, w5 = w6 := ⟨_, rfl⟩
  subst hw56
  have n2 : (rowOf w5 (w.heap.size + 1 + 1)).size = 46 := by rw [m3]; rfl
  have r2 := rowOf_set f.cells n2 (by decide)
  have r4 := (setRow_other w5 (w.heap.size + 1 + 1) (w.heap.size + 1 + 1 + 1) f.cells (by omega)).trans m4
  have hB8 := below_rowJ f.cells hB6 (show w.heap.size ≤ w.heap.size + 1 + 1 by omega)
  obtain ⟨⟨c0, c1, c2, c3, c4⟩, fr⟩ := five_at14 r4
  obtain ⟨⟨s0, s1, s2, s3, s4⟩, _⟩ := five_at14 m5
  obtain ⟨u0, u1, u2, u3, u4⟩ := used_at m2
  have H := Lib.hid (And.intro r2 (And.intro r4 hB8))
  clear n2 r2 r4 m4 m5 hB6 hB8
  go_wp2_with (first | (refine at_store_fl rfl _ _ rfl _ rfl _ rfl _ (by assumption) ?_) | (refine at_load_fl rfl _ rfl _ rfl _ (by assumption) ?_))
  obtain ⟨r2, r4, hB8⟩ := H.out
  have e4 := put5_at (a := .int .i64 0) (b := .int .i64 0) (c := .int .i64 0) (d := .int .i64 0) (e := .int .i64 0) r4
  have e2 := (row_same (put5_far (a := .int .i64 0) (b := .int .i64 0) (c := .int .i64 0) (d := .int .i64 0) (e := .int .i64 0) (show w.heap.size + 1 + 1 ≠ w.heap.size + 1 + 1 + 1 by omega))).trans r2
  have hBf := put5_below hB8 (w.heap.size + 1 + 1 + 1) (by omega) (.int .i64 0) (.int .i64 0) (.int .i64 0) (.int .i64 0) (.int .i64 0)
  exact bodyPost_ret (take_results e2 e4 rfl rfl rfl rfl) rfl ⟨rfl, hBf⟩
end Go.Proofs.YtiadaaihlimloaaGreat.W

/- Layer 14's own code, walked: Take where it tells (written by wip/genFwJ.py). -/
namespace Go.Proofs.YtiadaaihlimloaaGreat.W
open Go.RowKit Go.Sort
set_option linter.unusedVariables false
set_option linter.unusedSimpArgs false
set_option maxRecDepth 100000 in
set_option maxHeartbeats 12800000 in
theorem take_first (p : Pm) (f : Fl) (own poll at_ total : Int) (T : Told) (w : World) (ct : ∀ w, Calls Tryz.prog 12 #[.agg (pmC p), .agg f.cells, .int .i64 own, .int .i64 at_, .int .i64 total] w fun e w' => e = .returned (.tuple #[.agg #[.int .i64 T.off, .int .i64 T.del, .int .i64 T.disp, .int .i64 T.jit, .int .i64 T.at_], .bool true]) ∧ Below w.heap.size w w') (hh : f.had = false) :
    Calls Tryz.prog 10 #[.agg (pmC p), .agg f.cells, .int .i64 own, .int .i64 poll, .int .i64 at_, .int .i64 total] w fun e w' => e = .returned (.tuple #[.agg (Fl.mk f.l true T.at_ T.off total T.jit).cells, .agg #[.int .i64 T.off, .int .i64 T.del, .int .i64 T.disp, .int .i64 T.jit, .int .i64 T.at_], .int .i64 0]) ∧ Below w.heap.size w w' := by
  obtain ⟨wd, hwd⟩ : ∃ wd, (((w.alloc (.cells (pmC p) 38)).alloc (.cells f.cells 29)).alloc (.cells Fl.zero.cells 29)).alloc (.cells #[.int .i64 0, .int .i64 0, .int .i64 0, .int .i64 0, .int .i64 0] 33) = wd := ⟨_, rfl⟩
  obtain ⟨g1, g2, g3, g4, hB, hz⟩ := four_new _ _ _ _ _ _ _ _ _ _ hwd
  replace g2 := rowOf_heap g2
  replace g3 := rowOf_heap g3
  unfold pmC at hwd g1
  obtain ⟨q0, q1, q2, q3, q4, q5, q6, q7, q8, q9, q10, q11⟩ := twelve_at g1
  go_enter Tryz.func10, Tryz.ntmps10
  go_wp2_with (first | (refine at_alloc_fl rfl rfl ?_) | (rw [hwd]) | (refine at_load_fl rfl _ rfl _ rfl _ (by assumption) ?_))
  (with_reducible refine (ct _).mono ?_)
  rintro e w4 ⟨rfl, hB4⟩
  have k2 := fl_kept g2 hB4
  have k3 := fl_kept g3 hB4
  have k4 := (hB4.block _ (by omega)).trans g4
  have hB5 := hB.trans (hB4.mono hB.size)
  have z4 := hB4.size
  obtain ⟨w5, hw5⟩ : ∃ w5, w4.alloc (.cells #[.int .i64 T.off, .int .i64 T.del, .int .i64 T.disp, .int .i64 T.jit, .int .i64 T.at_] 33) = w5 := ⟨_, rfl⟩
  have m2 := fl_kept k2 ((Below.refl _ w4).alloc (Nat.le_refl _) (.cells #[.int .i64 T.off, .int .i64 T.del, .int .i64 T.disp, .int .i64 T.jit, .int .i64 T.at_] 33))
  have m3 := fl_kept k3 ((Below.refl _ w4).alloc (Nat.le_refl _) (.cells #[.int .i64 T.off, .int .i64 T.del, .int .i64 T.disp, .int .i64 T.jit, .int .i64 T.at_] 33))
  have m4 := (Below.heap_alloc w4 (.cells #[.int .i64 T.off, .int .i64 T.del, .int .i64 T.disp, .int .i64 T.jit, .int .i64 T.at_] 33) _ (by omega)).trans k4
  have m5 := heap_alloc_new w4 (.cells #[.int .i64 T.off, .int .i64 T.del, .int .i64 T.disp, .int .i64 T.jit, .int .i64 T.at_] 33)
  have hB6 := hB5.alloc (by omega) (.cells #[.int .i64 T.off, .int .i64 T.del, .int .i64 T.disp, .int .i64 T.jit, .int .i64 T.at_] 33)
  have z5 := World.size_alloc w4 (.cells #[.int .i64 T.off, .int .i64 T.del, .int .i64 T.disp, .int .i64 T.jit, .int .i64 T.at_] 33)
  rw [hw5] at m2 m3 m4 m5 hB6 z5
  clear hwd g1 g2 g3 g4 hB k2 k3 k4 hB4 hB5 ct q0 q1 q2 q3 q4 q5 q6 q7 q8 q9 q10 q11
  go_upto_if 26 with (rw [hw5])
  obtain ⟨⟨s0, s1, s2, s3, s4⟩, _⟩ := five_at14 m5
  obtain ⟨u0, u1, u2, u3, u4⟩ := used_at m2
  have fz := frozen_row m2
  rw [hh] at u0
  clear hh
  go_upto_region 8 with (refine at_load_fl rfl _ rfl _ rfl _ (by assumption) ?_)
  go_region
  obtain ⟨W7, hW7⟩ : ∃ W, (((((w5.setCell ⟨w.heap.size + 1, 41, none⟩ (.bool true)).setCell ⟨w.heap.size + 1, 42, none⟩ (.int .i64 T.at_)).setCell ⟨w.heap.size + 1, 43, none⟩ (.int .i64 T.off)).setCell ⟨w.heap.size + 1, 44, none⟩ (.int .i64 total)).setCell ⟨w.heap.size + 1, 45, none⟩ (.int .i64 T.jit)).drew = W := ⟨_, rfl⟩
  have X := take_world T total m2 m3 m4 m5 hB6 (show w.heap.size + 1 + 1 ≠ w.heap.size + 1 by omega) (show w.heap.size + 1 + 1 + 1 ≠ w.heap.size + 1 by omega) (show w4.heap.size ≠ w.heap.size + 1 by omega) (show w.heap.size ≤ w.heap.size + 1 by omega)
  rw [takeL_is] at X
  rw [hW7] at X ⊢
  obtain ⟨x2, x3, x4, x5, x6, x7⟩ := X
  clear hW7 m2 m3 m4 m5 hB6 s0 s1 s2 s3 s4 u0 u1 u2 u3 u4 fz
  obtain ⟨⟨s0, s1, s2, s3, s4⟩, _⟩ := five_at14 x5
  have n2 : (rowOf W7.drew (w.heap.size + 1 + 1)).size = 46 := by rw [rowOf_drew, x3]; rfl
  have r2 := rowOf_set (Fl.mk f.l true T.at_ T.off total T.jit).cells n2 (by decide)
  have r4 := (setRow_other W7.drew (w.heap.size + 1 + 1) (w.heap.size + 1 + 1 + 1) (Fl.mk f.l true T.at_ T.off total T.jit).cells (by omega)).trans x4
  have r5 := (setRow_other W7.drew (w.heap.size + 1 + 1) w4.heap.size (Fl.mk f.l true T.at_ T.off total T.jit).cells (by omega)).trans x5
  have hB8 := below_rowJ (Fl.mk f.l true T.at_ T.off total T.jit).cells (below_drewN x6 1) (show w.heap.size ≤ w.heap.size + 1 + 1 by omega)
  obtain ⟨⟨c0, c1, c2, c3, c4⟩, fr⟩ := five_at14 r4
  obtain ⟨⟨v0, v1, v2, v3, v4⟩, _⟩ := five_at14 r5
  have e4 := put5_at (a := .int .i64 T.off) (b := .int .i64 T.del) (c := .int .i64 T.disp) (d := .int .i64 T.jit) (e := .int .i64 T.at_) r4
  have e2 := (row_same (put5_far (a := .int .i64 T.off) (b := .int .i64 T.del) (c := .int .i64 T.disp) (d := .int .i64 T.jit) (e := .int .i64 T.at_) (show w.heap.size + 1 + 1 ≠ w.heap.size + 1 + 1 + 1 by omega))).trans r2
  have hBf := put5_below hB8 (w.heap.size + 1 + 1 + 1) (by omega) (.int .i64 T.off) (.int .i64 T.del) (.int .i64 T.disp) (.int .i64 T.jit) (.int .i64 T.at_)
  have hZ := Lib.hid (And.intro e2 (And.intro e4 hBf))
  clear n2 r2 r4 r5 hB8 x4 x5 x6 x7 e2 e4 hBf
  go_upto_region 9 with fail
  change rowOf W7.drew _ = _ at x2 x3
  refine wp_region_any (by kernel_rfl) ?_
  change wpAny _ _ _ _ _ _ _ (World.drew _)
  refine wpAny_ready (rs := [0, 1]) (by kernel_rfl) (by simp) ?_
  refine AllReady.cons rfl (fun K hK => ?_) (AllReady.cons rfl (fun K hK => ?_) AllReady.nil)
  · refine op_load_fl (by rfl) _ rfl _ rfl _ x2 (hK _ _ ?_)
    clear hK K
    refine wpAny_ready (rs := [1, 2]) (by kernel_rfl) (by simp) ?_
    refine AllReady.cons rfl (fun K hK => ?_) (AllReady.cons rfl (fun K hK => ?_) AllReady.nil)
    · go_simp
      (refine hK _ _ ?_; clear hK K)
      refine wpAny_ready (rs := [2]) (by kernel_rfl) (by simp) ?_
      refine AllReady.cons rfl (fun K hK => ?_) AllReady.nil
      refine op_store_fl (by rfl) _ _ rfl _ rfl _ rfl _ x3 (hK _ _ ?_)
      clear hK K
      refine wpAny_ready (rs := [3]) (by kernel_rfl) (by simp) ?_
      refine AllReady.cons rfl (fun K hK => ?_) AllReady.nil
      go_simp
      (refine hK _ _ ?_; clear hK K)
      refine wpAny_ready (rs := [4]) (by kernel_rfl) (by simp) ?_
      refine AllReady.cons rfl (fun K hK => ?_) AllReady.nil
      go_simp
      (refine hK _ _ ?_; clear hK K)
      refine wpAny_done (by kernel_rfl) ?_ _
      go_wp2_with fail
      obtain ⟨e2, e4, hBf⟩ := hZ.out; exact bodyPost_ret (take_results e2 e4 rfl rfl rfl rfl) rfl ⟨rfl, hBf⟩
    · refine op_store_fl (by rfl) _ _ rfl _ rfl _ rfl _ x3 (hK _ _ ?_)
      clear hK K
      refine wpAny_ready (rs := [1]) (by kernel_rfl) (by simp) ?_
      refine AllReady.cons rfl (fun K hK => ?_) AllReady.nil
      go_simp
      (refine hK _ _ ?_; clear hK K)
      refine wpAny_ready (rs := [3]) (by kernel_rfl) (by simp) ?_
      refine AllReady.cons rfl (fun K hK => ?_) AllReady.nil
      go_simp
      (refine hK _ _ ?_; clear hK K)
      refine wpAny_ready (rs := [4]) (by kernel_rfl) (by simp) ?_
      refine AllReady.cons rfl (fun K hK => ?_) AllReady.nil
      go_simp
      (refine hK _ _ ?_; clear hK K)
      refine wpAny_done (by kernel_rfl) ?_ _
      go_wp2_with fail
      obtain ⟨e2, e4, hBf⟩ := hZ.out; exact bodyPost_ret (take_results e2 e4 rfl rfl rfl rfl) rfl ⟨rfl, hBf⟩
  · go_simp
    (refine hK _ _ ?_; clear hK K)
    refine wpAny_ready (rs := [0]) (by kernel_rfl) (by simp) ?_
    refine AllReady.cons rfl (fun K hK => ?_) AllReady.nil
    refine op_load_fl (by rfl) _ rfl _ rfl _ x2 (hK _ _ ?_)
    clear hK K
    refine wpAny_ready (rs := [2]) (by kernel_rfl) (by simp) ?_
    refine AllReady.cons rfl (fun K hK => ?_) AllReady.nil
    refine op_store_fl (by rfl) _ _ rfl _ rfl _ rfl _ x3 (hK _ _ ?_)
    clear hK K
    refine wpAny_ready (rs := [3]) (by kernel_rfl) (by simp) ?_
    refine AllReady.cons rfl (fun K hK => ?_) AllReady.nil
    go_simp
    (refine hK _ _ ?_; clear hK K)
    refine wpAny_ready (rs := [4]) (by kernel_rfl) (by simp) ?_
    refine AllReady.cons rfl (fun K hK => ?_) AllReady.nil
    go_simp
    (refine hK _ _ ?_; clear hK K)
    refine wpAny_done (by kernel_rfl) ?_ _
    go_wp2_with fail
    obtain ⟨e2, e4, hBf⟩ := hZ.out; exact bodyPost_ret (take_results e2 e4 rfl rfl rfl rfl) rfl ⟨rfl, hBf⟩
set_option maxRecDepth 100000 in
set_option maxHeartbeats 12800000 in
theorem take_near (p : Pm) (f : Fl) (own poll at_ total : Int) (T : Told) (w : World) (ct : ∀ w, Calls Tryz.prog 12 #[.agg (pmC p), .agg f.cells, .int .i64 own, .int .i64 at_, .int .i64 total] w fun e w' => e = .returned (.tuple #[.agg #[.int .i64 T.off, .int .i64 T.del, .int .i64 T.disp, .int .i64 T.jit, .int .i64 T.at_], .bool true]) ∧ Below w.heap.size w w') (hh : f.had = true) (h1 : ¬ T.at_ ≤ f.used) (cf : ∀ w, Calls Tryz.prog 14 #[.agg f.cells, .int .i64 T.off, .int .i64 total] w fun e w' => e = .returned (.bool false) ∧ Below w.heap.size w w') :
    Calls Tryz.prog 10 #[.agg (pmC p), .agg f.cells, .int .i64 own, .int .i64 poll, .int .i64 at_, .int .i64 total] w fun e w' => e = .returned (.tuple #[.agg (Fl.mk f.l true T.at_ T.off total T.jit).cells, .agg #[.int .i64 T.off, .int .i64 T.del, .int .i64 T.disp, .int .i64 T.jit, .int .i64 T.at_], .int .i64 0]) ∧ Below w.heap.size w w' := by
  obtain ⟨wd, hwd⟩ : ∃ wd, (((w.alloc (.cells (pmC p) 38)).alloc (.cells f.cells 29)).alloc (.cells Fl.zero.cells 29)).alloc (.cells #[.int .i64 0, .int .i64 0, .int .i64 0, .int .i64 0, .int .i64 0] 33) = wd := ⟨_, rfl⟩
  obtain ⟨g1, g2, g3, g4, hB, hz⟩ := four_new _ _ _ _ _ _ _ _ _ _ hwd
  replace g2 := rowOf_heap g2
  replace g3 := rowOf_heap g3
  unfold pmC at hwd g1
  obtain ⟨q0, q1, q2, q3, q4, q5, q6, q7, q8, q9, q10, q11⟩ := twelve_at g1
  go_enter Tryz.func10, Tryz.ntmps10
  go_wp2_with (first | (refine at_alloc_fl rfl rfl ?_) | (rw [hwd]) | (refine at_load_fl rfl _ rfl _ rfl _ (by assumption) ?_))
  (with_reducible refine (ct _).mono ?_)
  rintro e w4 ⟨rfl, hB4⟩
  have k2 := fl_kept g2 hB4
  have k3 := fl_kept g3 hB4
  have k4 := (hB4.block _ (by omega)).trans g4
  have hB5 := hB.trans (hB4.mono hB.size)
  have z4 := hB4.size
  obtain ⟨w5, hw5⟩ : ∃ w5, w4.alloc (.cells #[.int .i64 T.off, .int .i64 T.del, .int .i64 T.disp, .int .i64 T.jit, .int .i64 T.at_] 33) = w5 := ⟨_, rfl⟩
  have m2 := fl_kept k2 ((Below.refl _ w4).alloc (Nat.le_refl _) (.cells #[.int .i64 T.off, .int .i64 T.del, .int .i64 T.disp, .int .i64 T.jit, .int .i64 T.at_] 33))
  have m3 := fl_kept k3 ((Below.refl _ w4).alloc (Nat.le_refl _) (.cells #[.int .i64 T.off, .int .i64 T.del, .int .i64 T.disp, .int .i64 T.jit, .int .i64 T.at_] 33))
  have m4 := (Below.heap_alloc w4 (.cells #[.int .i64 T.off, .int .i64 T.del, .int .i64 T.disp, .int .i64 T.jit, .int .i64 T.at_] 33) _ (by omega)).trans k4
  have m5 := heap_alloc_new w4 (.cells #[.int .i64 T.off, .int .i64 T.del, .int .i64 T.disp, .int .i64 T.jit, .int .i64 T.at_] 33)
  have hB6 := hB5.alloc (by omega) (.cells #[.int .i64 T.off, .int .i64 T.del, .int .i64 T.disp, .int .i64 T.jit, .int .i64 T.at_] 33)
  have z5 := World.size_alloc w4 (.cells #[.int .i64 T.off, .int .i64 T.del, .int .i64 T.disp, .int .i64 T.jit, .int .i64 T.at_] 33)
  rw [hw5] at m2 m3 m4 m5 hB6 z5
  clear hwd g1 g2 g3 g4 hB k2 k3 k4 hB4 hB5 ct q0 q1 q2 q3 q4 q5 q6 q7 q8 q9 q10 q11
  go_upto_if 26 with (rw [hw5])
  obtain ⟨⟨s0, s1, s2, s3, s4⟩, _⟩ := five_at14 m5
  obtain ⟨u0, u1, u2, u3, u4⟩ := used_at m2
  rw [hh] at u0
  clear hh
  go_wp2_with (refine at_load_flW (by rfl) _ rfl _ rfl _ (by assumption) ?_)
  (with_reducible refine (cf _).mono ?_)
  rintro e w6 ⟨rfl, hB9⟩
  have z6 := hB9.size
  have n2 := fl_kept m2 hB9
  have n3 := fl_kept m3 hB9
  have n4 := (hB9.block _ (by omega)).trans m4
  have n5 := (hB9.block _ (by omega)).trans m5
  have hB7 := hB6.trans (hB9.mono hB6.size)
  clear m2 m3 m4 m5 hB6 hB9 s0 s1 s2 s3 s4 u0 u1 u2 u3 u4 cf
  obtain ⟨m2, m3, m4, m5, hB6⟩ := And.intro n2 (And.intro n3 (And.intro n4 (And.intro n5 hB7)))
  clear n2 n3 n4 n5 hB7
  generalize w5 = w5' at *
  obtain ⟨w5, hw56⟩ : ∃ w5, w5 = w6 := ⟨_, rfl⟩
  subst hw56
  obtain ⟨⟨s0, s1, s2, s3, s4⟩, _⟩ := five_at14 m5
  obtain ⟨u0, u1, u2, u3, u4⟩ := used_at m2
  have fz := frozen_row m2
  go_upto_region 8 with (refine at_load_fl rfl _ rfl _ rfl _ (by assumption) ?_)
  go_region
  obtain ⟨W7, hW7⟩ : ∃ W, (((((w5.setCell ⟨w.heap.size + 1, 41, none⟩ (.bool true)).setCell ⟨w.heap.size + 1, 42, none⟩ (.int .i64 T.at_)).setCell ⟨w.heap.size + 1, 43, none⟩ (.int .i64 T.off)).setCell ⟨w.heap.size + 1, 44, none⟩ (.int .i64 total)).setCell ⟨w.heap.size + 1, 45, none⟩ (.int .i64 T.jit)).drew = W := ⟨_, rfl⟩
  have X := take_world T total m2 m3 m4 m5 hB6 (show w.heap.size + 1 + 1 ≠ w.heap.size + 1 by omega) (show w.heap.size + 1 + 1 + 1 ≠ w.heap.size + 1 by omega) (show w4.heap.size ≠ w.heap.size + 1 by omega) (show w.heap.size ≤ w.heap.size + 1 by omega)
  rw [takeL_is] at X
  rw [hW7] at X ⊢
  obtain ⟨x2, x3, x4, x5, x6, x7⟩ := X
  clear hW7 m2 m3 m4 m5 hB6 s0 s1 s2 s3 s4 u0 u1 u2 u3 u4 fz
  obtain ⟨⟨s0, s1, s2, s3, s4⟩, _⟩ := five_at14 x5
  have n2 : (rowOf W7.drew (w.heap.size + 1 + 1)).size = 46 := by rw [rowOf_drew, x3]; rfl
  have r2 := rowOf_set (Fl.mk f.l true T.at_ T.off total T.jit).cells n2 (by decide)
  have r4 := (setRow_other W7.drew (w.heap.size + 1 + 1) (w.heap.size + 1 + 1 + 1) (Fl.mk f.l true T.at_ T.off total T.jit).cells (by omega)).trans x4
  have r5 := (setRow_other W7.drew (w.heap.size + 1 + 1) w4.heap.size (Fl.mk f.l true T.at_ T.off total T.jit).cells (by omega)).trans x5
  have hB8 := below_rowJ (Fl.mk f.l true T.at_ T.off total T.jit).cells (below_drewN x6 1) (show w.heap.size ≤ w.heap.size + 1 + 1 by omega)
  obtain ⟨⟨c0, c1, c2, c3, c4⟩, fr⟩ := five_at14 r4
  obtain ⟨⟨v0, v1, v2, v3, v4⟩, _⟩ := five_at14 r5
  have e4 := put5_at (a := .int .i64 T.off) (b := .int .i64 T.del) (c := .int .i64 T.disp) (d := .int .i64 T.jit) (e := .int .i64 T.at_) r4
  have e2 := (row_same (put5_far (a := .int .i64 T.off) (b := .int .i64 T.del) (c := .int .i64 T.disp) (d := .int .i64 T.jit) (e := .int .i64 T.at_) (show w.heap.size + 1 + 1 ≠ w.heap.size + 1 + 1 + 1 by omega))).trans r2
  have hBf := put5_below hB8 (w.heap.size + 1 + 1 + 1) (by omega) (.int .i64 T.off) (.int .i64 T.del) (.int .i64 T.disp) (.int .i64 T.jit) (.int .i64 T.at_)
  have hZ := Lib.hid (And.intro e2 (And.intro e4 hBf))
  clear n2 r2 r4 r5 hB8 x4 x5 x6 x7 e2 e4 hBf
  go_upto_region 9 with fail
  change rowOf W7.drew _ = _ at x2 x3
  refine wp_region_any (by kernel_rfl) ?_
  change wpAny _ _ _ _ _ _ _ (World.drew _)
  refine wpAny_ready (rs := [0, 1]) (by kernel_rfl) (by simp) ?_
  refine AllReady.cons rfl (fun K hK => ?_) (AllReady.cons rfl (fun K hK => ?_) AllReady.nil)
  · refine op_load_fl (by rfl) _ rfl _ rfl _ x2 (hK _ _ ?_)
    clear hK K
    refine wpAny_ready (rs := [1, 2]) (by kernel_rfl) (by simp) ?_
    refine AllReady.cons rfl (fun K hK => ?_) (AllReady.cons rfl (fun K hK => ?_) AllReady.nil)
    · go_simp
      (refine hK _ _ ?_; clear hK K)
      refine wpAny_ready (rs := [2]) (by kernel_rfl) (by simp) ?_
      refine AllReady.cons rfl (fun K hK => ?_) AllReady.nil
      refine op_store_fl (by rfl) _ _ rfl _ rfl _ rfl _ x3 (hK _ _ ?_)
      clear hK K
      refine wpAny_ready (rs := [3]) (by kernel_rfl) (by simp) ?_
      refine AllReady.cons rfl (fun K hK => ?_) AllReady.nil
      go_simp
      (refine hK _ _ ?_; clear hK K)
      refine wpAny_ready (rs := [4]) (by kernel_rfl) (by simp) ?_
      refine AllReady.cons rfl (fun K hK => ?_) AllReady.nil
      go_simp
      (refine hK _ _ ?_; clear hK K)
      refine wpAny_done (by kernel_rfl) ?_ _
      go_wp2_with fail
      obtain ⟨e2, e4, hBf⟩ := hZ.out; exact bodyPost_ret (take_results e2 e4 rfl rfl rfl rfl) rfl ⟨rfl, hBf⟩
    · refine op_store_fl (by rfl) _ _ rfl _ rfl _ rfl _ x3 (hK _ _ ?_)
      clear hK K
      refine wpAny_ready (rs := [1]) (by kernel_rfl) (by simp) ?_
      refine AllReady.cons rfl (fun K hK => ?_) AllReady.nil
      go_simp
      (refine hK _ _ ?_; clear hK K)
      refine wpAny_ready (rs := [3]) (by kernel_rfl) (by simp) ?_
      refine AllReady.cons rfl (fun K hK => ?_) AllReady.nil
      go_simp
      (refine hK _ _ ?_; clear hK K)
      refine wpAny_ready (rs := [4]) (by kernel_rfl) (by simp) ?_
      refine AllReady.cons rfl (fun K hK => ?_) AllReady.nil
      go_simp
      (refine hK _ _ ?_; clear hK K)
      refine wpAny_done (by kernel_rfl) ?_ _
      go_wp2_with fail
      obtain ⟨e2, e4, hBf⟩ := hZ.out; exact bodyPost_ret (take_results e2 e4 rfl rfl rfl rfl) rfl ⟨rfl, hBf⟩
  · go_simp
    (refine hK _ _ ?_; clear hK K)
    refine wpAny_ready (rs := [0]) (by kernel_rfl) (by simp) ?_
    refine AllReady.cons rfl (fun K hK => ?_) AllReady.nil
    refine op_load_fl (by rfl) _ rfl _ rfl _ x2 (hK _ _ ?_)
    clear hK K
    refine wpAny_ready (rs := [2]) (by kernel_rfl) (by simp) ?_
    refine AllReady.cons rfl (fun K hK => ?_) AllReady.nil
    refine op_store_fl (by rfl) _ _ rfl _ rfl _ rfl _ x3 (hK _ _ ?_)
    clear hK K
    refine wpAny_ready (rs := [3]) (by kernel_rfl) (by simp) ?_
    refine AllReady.cons rfl (fun K hK => ?_) AllReady.nil
    go_simp
    (refine hK _ _ ?_; clear hK K)
    refine wpAny_ready (rs := [4]) (by kernel_rfl) (by simp) ?_
    refine AllReady.cons rfl (fun K hK => ?_) AllReady.nil
    go_simp
    (refine hK _ _ ?_; clear hK K)
    refine wpAny_done (by kernel_rfl) ?_ _
    go_wp2_with fail
    obtain ⟨e2, e4, hBf⟩ := hZ.out; exact bodyPost_ret (take_results e2 e4 rfl rfl rfl rfl) rfl ⟨rfl, hBf⟩
end Go.Proofs.YtiadaaihlimloaaGreat.W

/- Layer 14's own code, walked: Take where it tells (written by wip/genFwJ.py). -/
namespace Go.Proofs.YtiadaaihlimloaaGreat.W
open Go.RowKit Go.Sort
set_option linter.unusedVariables false
set_option linter.unusedSimpArgs false
set_option maxRecDepth 100000 in
set_option maxHeartbeats 12800000 in
theorem take_late (p : Pm) (f : Fl) (own poll at_ total : Int) (T : Told) (w : World) (ct : ∀ w, Calls Tryz.prog 12 #[.agg (pmC p), .agg f.cells, .int .i64 own, .int .i64 at_, .int .i64 total] w fun e w' => e = .returned (.tuple #[.agg #[.int .i64 T.off, .int .i64 T.del, .int .i64 T.disp, .int .i64 T.jit, .int .i64 T.at_], .bool true]) ∧ Below w.heap.size w w') (hh : f.had = true) (h1 : ¬ T.at_ ≤ f.used) (cf : ∀ w, Calls Tryz.prog 14 #[.agg f.cells, .int .i64 T.off, .int .i64 total] w fun e w' => e = .returned (.bool true) ∧ Below w.heap.size w w') (cs : ∀ w, Calls Tryz.prog 15 #[.agg f.cells, .int .i64 poll, .int .i64 at_] w fun e w' => e = .returned (.bool false) ∧ Below w.heap.size w w') :
    Calls Tryz.prog 10 #[.agg (pmC p), .agg f.cells, .int .i64 own, .int .i64 poll, .int .i64 at_, .int .i64 total] w fun e w' => e = .returned (.tuple #[.agg (Fl.mk f.l true T.at_ T.off total T.jit).cells, .agg #[.int .i64 T.off, .int .i64 T.del, .int .i64 T.disp, .int .i64 T.jit, .int .i64 T.at_], .int .i64 0]) ∧ Below w.heap.size w w' := by
  obtain ⟨wd, hwd⟩ : ∃ wd, (((w.alloc (.cells (pmC p) 38)).alloc (.cells f.cells 29)).alloc (.cells Fl.zero.cells 29)).alloc (.cells #[.int .i64 0, .int .i64 0, .int .i64 0, .int .i64 0, .int .i64 0] 33) = wd := ⟨_, rfl⟩
  obtain ⟨g1, g2, g3, g4, hB, hz⟩ := four_new _ _ _ _ _ _ _ _ _ _ hwd
  replace g2 := rowOf_heap g2
  replace g3 := rowOf_heap g3
  unfold pmC at hwd g1
  obtain ⟨q0, q1, q2, q3, q4, q5, q6, q7, q8, q9, q10, q11⟩ := twelve_at g1
  go_enter Tryz.func10, Tryz.ntmps10
  go_wp2_with (first | (refine at_alloc_fl rfl rfl ?_) | (rw [hwd]) | (refine at_load_fl rfl _ rfl _ rfl _ (by assumption) ?_))
  (with_reducible refine (ct _).mono ?_)
  rintro e w4 ⟨rfl, hB4⟩
  have k2 := fl_kept g2 hB4
  have k3 := fl_kept g3 hB4
  have k4 := (hB4.block _ (by omega)).trans g4
  have hB5 := hB.trans (hB4.mono hB.size)
  have z4 := hB4.size
  obtain ⟨w5, hw5⟩ : ∃ w5, w4.alloc (.cells #[.int .i64 T.off, .int .i64 T.del, .int .i64 T.disp, .int .i64 T.jit, .int .i64 T.at_] 33) = w5 := ⟨_, rfl⟩
  have m2 := fl_kept k2 ((Below.refl _ w4).alloc (Nat.le_refl _) (.cells #[.int .i64 T.off, .int .i64 T.del, .int .i64 T.disp, .int .i64 T.jit, .int .i64 T.at_] 33))
  have m3 := fl_kept k3 ((Below.refl _ w4).alloc (Nat.le_refl _) (.cells #[.int .i64 T.off, .int .i64 T.del, .int .i64 T.disp, .int .i64 T.jit, .int .i64 T.at_] 33))
  have m4 := (Below.heap_alloc w4 (.cells #[.int .i64 T.off, .int .i64 T.del, .int .i64 T.disp, .int .i64 T.jit, .int .i64 T.at_] 33) _ (by omega)).trans k4
  have m5 := heap_alloc_new w4 (.cells #[.int .i64 T.off, .int .i64 T.del, .int .i64 T.disp, .int .i64 T.jit, .int .i64 T.at_] 33)
  have hB6 := hB5.alloc (by omega) (.cells #[.int .i64 T.off, .int .i64 T.del, .int .i64 T.disp, .int .i64 T.jit, .int .i64 T.at_] 33)
  have z5 := World.size_alloc w4 (.cells #[.int .i64 T.off, .int .i64 T.del, .int .i64 T.disp, .int .i64 T.jit, .int .i64 T.at_] 33)
  rw [hw5] at m2 m3 m4 m5 hB6 z5
  clear hwd g1 g2 g3 g4 hB k2 k3 k4 hB4 hB5 ct q0 q1 q2 q3 q4 q5 q6 q7 q8 q9 q10 q11
  go_upto_if 26 with (rw [hw5])
  obtain ⟨⟨s0, s1, s2, s3, s4⟩, _⟩ := five_at14 m5
  obtain ⟨u0, u1, u2, u3, u4⟩ := used_at m2
  rw [hh] at u0
  clear hh
  go_wp2_with (refine at_load_flW (by rfl) _ rfl _ rfl _ (by assumption) ?_)
  (with_reducible refine (cf _).mono ?_)
  rintro e w6 ⟨rfl, hB9⟩
  have z6 := hB9.size
  have n2 := fl_kept m2 hB9
  have n3 := fl_kept m3 hB9
  have n4 := (hB9.block _ (by omega)).trans m4
  have n5 := (hB9.block _ (by omega)).trans m5
  have hB7 := hB6.trans (hB9.mono hB6.size)
  clear m2 m3 m4 m5 hB6 hB9 s0 s1 s2 s3 s4 u0 u1 u2 u3 u4 cf
  obtain ⟨m2, m3, m4, m5, hB6⟩ := And.intro n2 (And.intro n3 (And.intro n4 (And.intro n5 hB7)))
  clear n2 n3 n4 n5 hB7
  generalize w5 = w5' at *
  obtain ⟨w5, hw56⟩ : ∃ w5, w5 = w6 := ⟨_, rfl⟩
  subst hw56
  go_wp2_with (refine at_load_flW (by rfl) _ rfl _ rfl _ (by assumption) ?_)
  (with_reducible refine (cs _).mono ?_)
  rintro e w6 ⟨rfl, hB9⟩
  have z7 := hB9.size
  have n2 := fl_kept m2 hB9
  have n3 := fl_kept m3 hB9
  have n4 := (hB9.block _ (by omega)).trans m4
  have n5 := (hB9.block _ (by omega)).trans m5
  have hB7 := hB6.trans (hB9.mono hB6.size)
  clear m2 m3 m4 m5 hB6 hB9 cs
  obtain ⟨m2, m3, m4, m5, hB6⟩ := And.intro n2 (And.intro n3 (And.intro n4 (And.intro n5 hB7)))
  clear n2 n3 n4 n5 hB7
  generalize w5 = w5'' at *
  obtain ⟨w5, hw56⟩ : ∃ w5, w5 = w6 := ⟨_, rfl⟩
  subst hw56
  obtain ⟨⟨s0, s1, s2, s3, s4⟩, _⟩ := five_at14 m5
  obtain ⟨u0, u1, u2, u3, u4⟩ := used_at m2
  have fz := frozen_row m2
  go_upto_region 8 with (refine at_load_fl rfl _ rfl _ rfl _ (by assumption) ?_)
  go_region
  obtain ⟨W7, hW7⟩ : ∃ W, (((((w5.setCell ⟨w.heap.size + 1, 41, none⟩ (.bool true)).setCell ⟨w.heap.size + 1, 42, none⟩ (.int .i64 T.at_)).setCell ⟨w.heap.size + 1, 43, none⟩ (.int .i64 T.off)).setCell ⟨w.heap.size + 1, 44, none⟩ (.int .i64 total)).setCell ⟨w.heap.size + 1, 45, none⟩ (.int .i64 T.jit)).drew = W := ⟨_, rfl⟩
  have X := take_world T total m2 m3 m4 m5 hB6 (show w.heap.size + 1 + 1 ≠ w.heap.size + 1 by omega) (show w.heap.size + 1 + 1 + 1 ≠ w.heap.size + 1 by omega) (show w4.heap.size ≠ w.heap.size + 1 by omega) (show w.heap.size ≤ w.heap.size + 1 by omega)
  rw [takeL_is] at X
  rw [hW7] at X ⊢
  obtain ⟨x2, x3, x4, x5, x6, x7⟩ := X
  clear hW7 m2 m3 m4 m5 hB6 s0 s1 s2 s3 s4 u0 u1 u2 u3 u4 fz
  obtain ⟨⟨s0, s1, s2, s3, s4⟩, _⟩ := five_at14 x5
  have n2 : (rowOf W7.drew (w.heap.size + 1 + 1)).size = 46 := by rw [rowOf_drew, x3]; rfl
  have r2 := rowOf_set (Fl.mk f.l true T.at_ T.off total T.jit).cells n2 (by decide)
  have r4 := (setRow_other W7.drew (w.heap.size + 1 + 1) (w.heap.size + 1 + 1 + 1) (Fl.mk f.l true T.at_ T.off total T.jit).cells (by omega)).trans x4
  have r5 := (setRow_other W7.drew (w.heap.size + 1 + 1) w4.heap.size (Fl.mk f.l true T.at_ T.off total T.jit).cells (by omega)).trans x5
  have hB8 := below_rowJ (Fl.mk f.l true T.at_ T.off total T.jit).cells (below_drewN x6 1) (show w.heap.size ≤ w.heap.size + 1 + 1 by omega)
  obtain ⟨⟨c0, c1, c2, c3, c4⟩, fr⟩ := five_at14 r4
  obtain ⟨⟨v0, v1, v2, v3, v4⟩, _⟩ := five_at14 r5
  have e4 := put5_at (a := .int .i64 T.off) (b := .int .i64 T.del) (c := .int .i64 T.disp) (d := .int .i64 T.jit) (e := .int .i64 T.at_) r4
  have e2 := (row_same (put5_far (a := .int .i64 T.off) (b := .int .i64 T.del) (c := .int .i64 T.disp) (d := .int .i64 T.jit) (e := .int .i64 T.at_) (show w.heap.size + 1 + 1 ≠ w.heap.size + 1 + 1 + 1 by omega))).trans r2
  have hBf := put5_below hB8 (w.heap.size + 1 + 1 + 1) (by omega) (.int .i64 T.off) (.int .i64 T.del) (.int .i64 T.disp) (.int .i64 T.jit) (.int .i64 T.at_)
  have hZ := Lib.hid (And.intro e2 (And.intro e4 hBf))
  clear n2 r2 r4 r5 hB8 x4 x5 x6 x7 e2 e4 hBf
  go_upto_region 9 with fail
  change rowOf W7.drew _ = _ at x2 x3
  refine wp_region_any (by kernel_rfl) ?_
  change wpAny _ _ _ _ _ _ _ (World.drew _)
  refine wpAny_ready (rs := [0, 1]) (by kernel_rfl) (by simp) ?_
  refine AllReady.cons rfl (fun K hK => ?_) (AllReady.cons rfl (fun K hK => ?_) AllReady.nil)
  · refine op_load_fl (by rfl) _ rfl _ rfl _ x2 (hK _ _ ?_)
    clear hK K
    refine wpAny_ready (rs := [1, 2]) (by kernel_rfl) (by simp) ?_
    refine AllReady.cons rfl (fun K hK => ?_) (AllReady.cons rfl (fun K hK => ?_) AllReady.nil)
    · go_simp
      (refine hK _ _ ?_; clear hK K)
      refine wpAny_ready (rs := [2]) (by kernel_rfl) (by simp) ?_
      refine AllReady.cons rfl (fun K hK => ?_) AllReady.nil
      refine op_store_fl (by rfl) _ _ rfl _ rfl _ rfl _ x3 (hK _ _ ?_)
      clear hK K
      refine wpAny_ready (rs := [3]) (by kernel_rfl) (by simp) ?_
      refine AllReady.cons rfl (fun K hK => ?_) AllReady.nil
      go_simp
      (refine hK _ _ ?_; clear hK K)
      refine wpAny_ready (rs := [4]) (by kernel_rfl) (by simp) ?_
      refine AllReady.cons rfl (fun K hK => ?_) AllReady.nil
      go_simp
      (refine hK _ _ ?_; clear hK K)
      refine wpAny_done (by kernel_rfl) ?_ _
      go_wp2_with fail
      obtain ⟨e2, e4, hBf⟩ := hZ.out; exact bodyPost_ret (take_results e2 e4 rfl rfl rfl rfl) rfl ⟨rfl, hBf⟩
    · refine op_store_fl (by rfl) _ _ rfl _ rfl _ rfl _ x3 (hK _ _ ?_)
      clear hK K
      refine wpAny_ready (rs := [1]) (by kernel_rfl) (by simp) ?_
      refine AllReady.cons rfl (fun K hK => ?_) AllReady.nil
      go_simp
      (refine hK _ _ ?_; clear hK K)
      refine wpAny_ready (rs := [3]) (by kernel_rfl) (by simp) ?_
      refine AllReady.cons rfl (fun K hK => ?_) AllReady.nil
      go_simp
      (refine hK _ _ ?_; clear hK K)
      refine wpAny_ready (rs := [4]) (by kernel_rfl) (by simp) ?_
      refine AllReady.cons rfl (fun K hK => ?_) AllReady.nil
      go_simp
      (refine hK _ _ ?_; clear hK K)
      refine wpAny_done (by kernel_rfl) ?_ _
      go_wp2_with fail
      obtain ⟨e2, e4, hBf⟩ := hZ.out; exact bodyPost_ret (take_results e2 e4 rfl rfl rfl rfl) rfl ⟨rfl, hBf⟩
  · go_simp
    (refine hK _ _ ?_; clear hK K)
    refine wpAny_ready (rs := [0]) (by kernel_rfl) (by simp) ?_
    refine AllReady.cons rfl (fun K hK => ?_) AllReady.nil
    refine op_load_fl (by rfl) _ rfl _ rfl _ x2 (hK _ _ ?_)
    clear hK K
    refine wpAny_ready (rs := [2]) (by kernel_rfl) (by simp) ?_
    refine AllReady.cons rfl (fun K hK => ?_) AllReady.nil
    refine op_store_fl (by rfl) _ _ rfl _ rfl _ rfl _ x3 (hK _ _ ?_)
    clear hK K
    refine wpAny_ready (rs := [3]) (by kernel_rfl) (by simp) ?_
    refine AllReady.cons rfl (fun K hK => ?_) AllReady.nil
    go_simp
    (refine hK _ _ ?_; clear hK K)
    refine wpAny_ready (rs := [4]) (by kernel_rfl) (by simp) ?_
    refine AllReady.cons rfl (fun K hK => ?_) AllReady.nil
    go_simp
    (refine hK _ _ ?_; clear hK K)
    refine wpAny_done (by kernel_rfl) ?_ _
    go_wp2_with fail
    obtain ⟨e2, e4, hBf⟩ := hZ.out; exact bodyPost_ret (take_results e2 e4 rfl rfl rfl rfl) rfl ⟨rfl, hBf⟩
end Go.Proofs.YtiadaaihlimloaaGreat.W

/- Layer 14's own code, walked: Take (written by wip/genFwJ.py). -/
namespace Go.Proofs.YtiadaaihlimloaaGreat.W
open Go.RowKit Go.Sort
set_option linter.unusedVariables false
set_option linter.unusedSimpArgs false
set_option maxRecDepth 100000 in
set_option maxHeartbeats 12800000 in
theorem ftake_any (p : Pm) (tp : p.Typed) (f : Fl) (tf : f.Typed) (own poll at_ total : Int) (o0 : -9223372036854775808 ≤ own ∧ own ≤ 9223372036854775807) (p0 : -9223372036854775808 ≤ poll ∧ poll ≤ 9223372036854775807) (a0 : -9223372036854775808 ≤ at_ ∧ at_ ≤ 9223372036854775807) (t0 : -9223372036854775808 ≤ total ∧ total ≤ 9223372036854775807) (w : World) :
    Calls Tryz.prog 10 #[p.val, f.val, .int .i64 own, .int .i64 poll, .int .i64 at_, .int .i64 total] w fun e w' => e = .returned (.tuple #[(takeF p f own poll at_ total).val, (takeT p f own poll at_ total).val, .int .i64 (takeE p f own poll at_ total)]) ∧ Below w.heap.size w w' := by
  have ct := ftell_any p tp f tf own at_ total o0 a0 t0
  have cf := ffar_any f tf (tellT p f own at_ total).off total (tell_off p f own at_ total) t0
  have cs := fsoon_any f tf poll at_ p0 a0
  obtain ⟨T, hT⟩ : ∃ T, tellT p f own at_ total = T := ⟨_, rfl⟩
  obtain ⟨E, hE⟩ : ∃ E, takeE p f own poll at_ total = E := ⟨_, rfl⟩
  have hF : takeF p f own poll at_ total = if E = 0 then ⟨f.l, true, T.at_, T.off, total, T.jit⟩ else f := by unfold takeF; rw [hE, hT]
  have hU : takeT p f own poll at_ total = if E = 0 then T else Told.zero := by unfold takeT; rw [hE, hT]
  rw [hF, hU, hE]
  rw [hT] at ct cf
  unfold takeE at hE
  rw [hT] at hE
  unfold farF at hE
  clear hF hU hT
  unfold Fl.val Pm.val Told.val at *
  by_cases hl : f.l = []
  · have hE3 : E = 3 := by rw [← hE, if_pos hl]
    rw [tellB_nil hl] at ct
    subst hE3
    exact take_none p f own poll at_ total T w ct
  · rw [tellB_some hl] at ct
    rw [if_neg hl] at hE
    by_cases hh : f.had = true
    · by_cases h1 : T.at_ ≤ f.used
      · have hE3 : E = 140 := by rw [← hE, if_pos ⟨hh, h1⟩]
        subst hE3
        exact take_stale p f own poll at_ total T w ct hh h1
      · by_cases h2 : threeF f < absI (subI T.off (subI f.off (subI total f.total)))
        · rw [decide_eq_true h2] at cf
          by_cases h3 : subI at_ f.used < addI (powI poll) (powI poll)
          · have hE3 : E = 141 := by rw [← hE, if_neg (fun h => h1 h.2), if_pos ⟨hh, h2, h3⟩]
            rw [decide_eq_true h3] at cs
            subst hE3
            exact take_spike p f own poll at_ total T w ct hh h1 cf cs
          · have hE3 : E = 0 := by rw [← hE, if_neg (fun h => h1 h.2), if_neg (fun h => h3 h.2.2)]
            rw [decide_eq_false h3] at cs
            subst hE3
            exact take_late p f own poll at_ total T w ct hh h1 cf cs
        · have hE3 : E = 0 := by rw [← hE, if_neg (fun h => h1 h.2), if_neg (fun h => h2 h.2.1)]
          rw [decide_eq_false h2] at cf
          subst hE3
          exact take_near p f own poll at_ total T w ct hh h1 cf
    · have hE3 : E = 0 := by rw [← hE, if_neg (fun h => hh h.1), if_neg (fun h => hh h.1)]
      subst hE3
      exact take_first p f own poll at_ total T w ct (by simpa using hh)
end Go.Proofs.YtiadaaihlimloaaGreat.W

