/- Layer 19's own code, walked: what an offset does. -/
import Derived.Test.YtlidlmgmijndcaaGreatLpI
namespace Go.Proofs.YtlidlmgmijndcaaGreat.W
open Go.RowKit Go.Sort Go.WideShapes
set_option linter.unusedVariables false
set_option linter.unusedSimpArgs false
def actsC : Array Value := #[.func (.func 36) #[] #[], .func (.func 37) #[] #[], .func (.func 38) #[] #[], .func (.func 39) #[] #[], .func (.func 40) #[] #[]]
/-- What a state does, as a function. -/
def actK (s : Int) : Nat := if s = 1 then 37 else if s = 2 then 38 else if s = 3 then 39 else if s = 4 then 40 else 36
theorem acts_at (s : Int) (h : 0 ≤ s ∧ s ≤ 4) (w : World) : (Instr.index 60 (.agg actsC) (.int .i64 s)).run Tryz.prog w = .ok (.func (.func (actK s)) #[] #[]) w := by
  have hs : (Tryz.prog.info? 59).map (·.size) = some 1 := by kernel_rfl
  cases hq : Tryz.prog.info? 59 with
  | none => simp [hq] at hs
  | some i =>
    have hi : i.size = 1 := by simpa [hq] using hs
    have hc : s = 0 ∨ s = 1 ∨ s = 2 ∨ s = 3 ∨ s = 4 := by omega
    rcases hc with rfl | rfl | rfl | rfl | rfl <;> simp [actsC, actK, Instr.index, run_underlying Tryz.underlying60, run_underlying Tryz.underlying59, asIntOf, part, isAgg, sizeOf, typeInfo, hq, hi, go_sem]
theorem acts_enter (s : Int) (h : 0 ≤ s ∧ s ≤ 4) (args : Array Value) (w : World) : (callFunc (actK s) args).run Tryz.prog w = .ok (.enter (actK s) args) w := by
  have hc : s = 0 ∨ s = 1 ∨ s = 2 ∨ s = 3 ∨ s = 4 := by omega
  rcases hc with rfl | rfl | rfl | rfl | rfl
  · exact Tryz.call36 _ _
  · exact Tryz.call37 _ _
  · exact Tryz.call38 _ _
  · exact Tryz.call39 _ _
  · exact Tryz.call40 _ _
set_option maxRecDepth 100000 in
set_option maxHeartbeats 6400000 in
theorem lpacts_any (w : World) : Calls Tryz.prog 22 #[] w fun e w' => e = .returned (.agg actsC) ∧ Below w.heap.size w w' := by
  unfold actsC
  have hB := (Below.refl w.heap.size w).alloc (Nat.le_refl _) (.cells #[.func (.func 36) #[] #[], .func (.func 37) #[] #[], .func (.func 38) #[] #[], .func (.func 39) #[] #[], .func (.func 40) #[] #[]] 60)
  have h0 := heap_alloc_new w (.cells #[.func (.func 36) #[] #[], .func (.func 37) #[] #[], .func (.func 38) #[] #[], .func (.func 39) #[] #[], .func (.func 40) #[] #[]] 60)
  go_enter Tryz.func22, Tryz.ntmps22
  go_wp2_with fail
  exact bodyPost_ret (results_cellE Tryz.results22 _ rfl (loadVar_E rfl Tryz.underlying60 (by kernel_rfl : _ = some 5) h0 rfl)) rfl ⟨rfl, hB⟩
theorem drew_E {w0 w : World} {b : Nat} {c : Obj} (h : w.heap[b]? = some c) (hB : Below w0.heap.size w0 w) : w.drew.heap[b]? = some c ∧ Below w0.heap.size w0 w.drew := ⟨h, hB.drew⟩
theorem seven_setE {w0 w : World} {b : Nat} {o0 o1 o2 o3 o4 o5 o6 : Value} {t : TypeId} (a0 a1 a2 a3 a4 a5 a6 : Value) (h : w.heap[b]? = some (.cells #[o0, o1, o2, o3, o4, o5, o6] t (0, 0))) (hB : Below w0.heap.size w0 w) (hb : w0.heap.size ≤ b) :
    (((((((w.setCell ⟨b, 0, none⟩ a0).setCell ⟨b, 1, none⟩ a1).setCell ⟨b, 2, none⟩ a2).setCell ⟨b, 3, none⟩ a3).setCell ⟨b, 4, none⟩ a4).setCell ⟨b, 5, none⟩ a5).setCell ⟨b, 6, none⟩ a6).drew.heap[b]? = some (.cells #[a0, a1, a2, a3, a4, a5, a6] t (0, 0)) ∧
    Below w0.heap.size w0 (((((((w.setCell ⟨b, 0, none⟩ a0).setCell ⟨b, 1, none⟩ a1).setCell ⟨b, 2, none⟩ a2).setCell ⟨b, 3, none⟩ a3).setCell ⟨b, 4, none⟩ a4).setCell ⟨b, 5, none⟩ a5).setCell ⟨b, 6, none⟩ a6).drew := by
  have k := (block_set 6 a6 (block_set 5 a5 (block_set 4 a4 (block_set 3 a3 (block_set 2 a2 (block_set 1 a1 (block_set 0 a0 h)))))))
  simp only [List.setIfInBounds_toArray, List.set_cons_zero, List.set_cons_succ] at k
  have B := (((((((hB.setCell (p := ⟨b, 0, none⟩) hb a0).setCell (p := ⟨b, 1, none⟩) hb a1).setCell (p := ⟨b, 2, none⟩) hb a2).setCell (p := ⟨b, 3, none⟩) hb a3).setCell (p := ⟨b, 4, none⟩) hb a4).setCell (p := ⟨b, 5, none⟩) hb a5).setCell (p := ⟨b, 6, none⟩) hb a6)
  exact drew_E k B
theorem state_in19 (d : Dc) : 0 ≤ stateI d ∧ stateI d ≤ 4 := by unfold stateI; split <;> omega
set_option maxRecDepth 100000 in
set_option maxHeartbeats 12800000 in
theorem lpupd_do0 (p : Pm) (t : p.Typed) (d : Dc) (td : d.Typed) (o at_ n : Int) (o0 : -9223372036854775808 ≤ o ∧ o ≤ 9223372036854775807) (a0 : -9223372036854775808 ≤ at_ ∧ at_ ≤ 9223372036854775807) (D : Dc) (k by_ : Int)
    (hs : (stateI d != 0) = false) (c : ∀ W, Calls Tryz.prog (actK (stateI d)) #[Nw.val ⟨p, d, o, at_, goneL19 d at_, n⟩] W fun e w' => e = .returned (ddV D k by_) ∧ Below W.heap.size W w') (w : World) :
    Calls Tryz.prog 12 #[p.val, d.val, .int .i64 o, .int .i64 at_, .int .i64 n] w fun e w' => e = .returned (.tuple #[D.val, .int .i64 k, .int .i64 by_, .int .i64 0]) ∧ Below w.heap.size w w' := by
  obtain ⟨W, hW⟩ : ∃ W, ((w.alloc (.cells (pmC p) 25)).alloc (.cells (dcC d) 28)).alloc (.cells #[.int .i64 0, .int .i64 0, .int .i64 0, .int .i64 0, .int .i64 0, .int .i64 0, .int .i64 0] 28) = W := ⟨_, rfl⟩
  obtain ⟨h1, h2, h3, hB, hz⟩ := three_newE _ _ _ _ _ _ _ _ hW
  have c1 : ∀ W, Calls Tryz.prog 19 #[d.val] W fun e w' => e = .returned (.int .i64 (stateI d)) ∧ Below W.heap.size W w' := lpstate_any d
  have c2 := abs_any o o0.1 o0.2
  have c3 := sub_any at_ d.at_ a0.1 a0.2 td.at_.1 td.at_.2
  have m1 := fun ts t => maxD19 (subI at_ d.at_) 0 (goneL19 d at_) (by unfold goneL19; omega) ts t
  have x1 := acts_at (stateI d) (state_in19 d)
  have x2 := acts_enter (stateI d) (state_in19 d)
  have c4 := lpacts_any
  have one := dc_oneE D
  unfold Nw.val Pm.val Dc.val ddV at *
  unfold nwC ddC dcC at *
  dsimp only at *
  generalize goneL19 d at_ = gone at *
  generalize subI at_ d.at_ = sb at *
  generalize absI o = ab at *
  generalize actK (stateI d) = g at *
  generalize stateI d = s at *
  have HH := Lib.hid (And.intro h1 (And.intro h2 (And.intro h3 (And.intro hB hz))))
  unfold pmC at hW
  clear h1 h3 hB hz t td o0 a0
  go_enter Tryz.func12, Tryz.ntmps12
  go_wp2_with (first | (rw [hW]) | (refine at_load_E rfl Tryz.underlying28 info_dcE rfl _ rfl _ rfl h2 rfl ?_))
  (with_reducible refine (c1 _).mono ?_)
  rintro e w1 ⟨rfl, B⟩
  obtain ⟨h1', h2', h3', hB', hz'⟩ := HH.out
  clear h2 hW HH c1
  have h1 := (B.block _ (Array.getElem?_eq_some_iff.1 h1').1).trans h1'
  have h2 := (B.block _ (Array.getElem?_eq_some_iff.1 h2').1).trans h2'
  have h3 := (B.block _ (Array.getElem?_eq_some_iff.1 h3').1).trans h3'
  have hB := hB'.trans (B.mono hB'.size)
  clear h1' h2' h3' hB' hz' B
  have q2 := row_atE h1 2 _ rfl
  have r1 := row_atE h2 1 _ rfl
  have HH := Lib.hid (And.intro h1 (And.intro h2 (And.intro h3 hB)))
  clear h1 h2 h3 hB
  go_upto_region 2 with fail
  go_quiet (with_reducible exact quiet_eq (c2 _))
  go_wp2_with fail
  (with_reducible refine (c3 _).mono ?_)
  rintro e w2 ⟨rfl, rfl⟩
  go_upto_region 5 with fail
  obtain ⟨h1, h2, h3, hB⟩ := HH.out
  have hb8 := below_drewN hB nq
  have hp8 : (w1.drewN nq).heap[w.heap.size]? = _ := h1
  have hd8 : (w1.drewN nq).heap[w.heap.size + 1]? = _ := h2
  have hr8 : (w1.drewN nq).heap[w.heap.size + 1 + 1]? = _ := h3
  clear h1 h2 h3 hB HH q2 r1
  generalize w1.drewN nq = W at *
  have q0 := cell_regrown (row_atE hp8 0 _ rfl)
  have q1 := cell_regrown (row_atE hp8 1 _ rfl)
  have q2 := cell_regrown (row_atE hp8 2 _ rfl)
  have q3 := cell_regrown (row_atE hp8 3 _ rfl)
  have q4 := cell_regrown (row_atE hp8 4 _ rfl)
  have q5 := cell_regrown (row_atE hp8 5 _ rfl)
  have q6 := cell_regrown (row_atE hp8 6 _ rfl)
  have q7 := cell_regrown (row_atE hp8 7 _ rfl)
  have q8 := cell_regrown (row_atE hp8 8 _ rfl)
  have q9 := cell_regrown (row_atE hp8 9 _ rfl)
  have q10 := cell_regrown (row_atE hp8 10 _ rfl)
  have q11 := cell_regrown (row_atE hp8 11 _ rfl)
  have r0 := cell_regrown (row_atE hd8 0 _ rfl)
  have r1 := cell_regrown (row_atE hd8 1 _ rfl)
  have r2 := cell_regrown (row_atE hd8 2 _ rfl)
  have r3 := cell_regrown (row_atE hd8 3 _ rfl)
  have r4 := cell_regrown (row_atE hd8 4 _ rfl)
  have r5 := cell_regrown (row_atE hd8 5 _ rfl)
  have r6 := cell_regrown (row_atE hd8 6 _ rfl)
  have f1 := fun d os => again_of (c4 (grow (redrawn W d) os))
  have f2 := fun d os => again_of (c (grow (redrawn W d) os))
  have HH := Lib.hid (And.intro hr8 hb8)
  have hz8 := (Array.getElem?_eq_some_iff.1 hr8).1
  clear hp8 hd8 hr8 hb8 c c4 c3 c2 m1
  refine wp_region_var 11 16 (ob := .cells #[.int .i64 0, .int .i64 0, .int .i64 0, .int .i64 0, .int .i64 0, .int .i64 0, .int .i64 0, .int .i64 0, .int .i64 0] 58 (0, 0)) (by kernel_rfl) (by kernel_rfl) rfl rfl (fun _ => rfl) rfl (by kernel_rfl) (by simp) (fun a v K hK => by go_simp; exact hK) ?_
  simp only [List.take_succ_cons, List.take_zero, List.drop_succ_cons, List.drop_zero]
  repeat (refine wpR_step (fun K hK => ?_); go_simp; first | (refine hK _ ?_; clear hK K) | (apply Exists.intro; refine ⟨fun _ => ?_, hK _ ?_⟩; (first | (with_reducible exact f1 _ _) | (with_reducible exact f2 _ _)); clear hK K))
  refine wpR_nil ⟨by simp, ?_⟩
  intro bt wv hbt hvt hBv
  clear q0 q1 q2 q3 q4 q5 q6 q7 q8 q9 q10 q11 r0 r1 r2 r3 r4 r5 r6 f1 f2
  have two := dd_oneE D k by_
  unfold ddC at two
  have H2 := Lib.hid hvt
  go_upto_region 6 with (refine at_store_E info_ddE rfl _ _ rfl _ rfl rfl hvt rfl rfl two ?_)
  obtain ⟨hr8, hb8⟩ := HH.out
  have hvt' := H2.out
  clear hvt HH H2
  have s1 := setRow_heap wv bt _ #[.int .i64 D.st, .int .i64 D.at_, .int .i64 D.off, .int .i64 D.freq, .int .i64 D.jit, .int .i64 D.wan, .int .i64 D.rest, .int .i64 k, .int .i64 by_] _ _ hvt'
  have s2 := (setRow_other wv bt (w.heap.size + 1 + 1) #[.int .i64 D.st, .int .i64 D.at_, .int .i64 D.off, .int .i64 D.freq, .int .i64 D.jit, .int .i64 D.wan, .int .i64 D.rest, .int .i64 k, .int .i64 by_] (by omega)).trans ((hBv.block _ (by omega)).trans hr8)
  have s3 := below_setRowE (g := bt) (hb8.trans (hBv.mono hb8.size)) (by have := hb8.size; omega) #[.int .i64 D.st, .int .i64 D.at_, .int .i64 D.off, .int .i64 D.freq, .int .i64 D.jit, .int .i64 D.wan, .int .i64 D.rest, .int .i64 k, .int .i64 by_]
  have ne : bt ≠ w.heap.size + 1 + 1 := by omega
  have ne' : w.heap.size + 1 + 1 ≠ bt := by omega
  clear hvt' hr8 hb8 hBv hbt hz8 two
  generalize wv.setRow bt #[.int .i64 D.st, .int .i64 D.at_, .int .i64 D.off, .int .i64 D.freq, .int .i64 D.jit, .int .i64 D.wan, .int .i64 D.rest, .int .i64 k, .int .i64 by_] = W2 at *
  have q0 := (row_atE s1 0 _ rfl)
  have q1 := (row_atE s1 1 _ rfl)
  have q2 := (row_atE s1 2 _ rfl)
  have q3 := (row_atE s1 3 _ rfl)
  have q4 := (row_atE s1 4 _ rfl)
  have q5 := (row_atE s1 5 _ rfl)
  have q6 := (row_atE s1 6 _ rfl)
  have q7 := (row_atE s1 7 _ rfl)
  have q8 := (row_atE s1 8 _ rfl)
  have HH := Lib.hid (And.intro s2 s3)
  have c0 := row_atE s2 0 _ rfl
  have c1 := row_atE s2 1 _ rfl
  have c2 := row_atE s2 2 _ rfl
  have c3 := row_atE s2 3 _ rfl
  have c4 := row_atE s2 4 _ rfl
  have c5 := row_atE s2 5 _ rfl
  have c6 := row_atE s2 6 _ rfl
  have fr := row_thawE s2
  clear s1 s2 s3
  go_region
  all_goals
    obtain ⟨s2, s3⟩ := HH.out
    obtain ⟨k2, kB⟩ := seven_setE (.int .i64 D.st) (.int .i64 D.at_) (.int .i64 D.off) (.int .i64 D.freq) (.int .i64 D.jit) (.int .i64 D.wan) (.int .i64 D.rest) s2 s3 (show w.heap.size ≤ w.heap.size + 1 + 1 by omega)
    clear s2 s3 HH q0 q1 q2 q3 q4 q5 q6 q7 q8 c0 c1 c2 c3 c4 c5 c6 fr
    generalize (((((((W2.setCell ⟨w.heap.size + 1 + 1, 0, none⟩ (.int .i64 D.st)).setCell ⟨w.heap.size + 1 + 1, 1, none⟩ (.int .i64 D.at_)).setCell ⟨w.heap.size + 1 + 1, 2, none⟩ (.int .i64 D.off)).setCell ⟨w.heap.size + 1 + 1, 3, none⟩ (.int .i64 D.freq)).setCell ⟨w.heap.size + 1 + 1, 4, none⟩ (.int .i64 D.jit)).setCell ⟨w.heap.size + 1 + 1, 5, none⟩ (.int .i64 D.wan)).setCell ⟨w.heap.size + 1 + 1, 6, none⟩ (.int .i64 D.rest)).drew = W3 at *
    have H3 := Lib.hid kB
    clear kB
    have hl := loadVar_E rfl Tryz.underlying28 info_dcE k2 rfl
    clear k2
    go_wp2_with fail
    refine bodyPost_ret (v := .tuple #[.agg #[.int .i64 D.st, .int .i64 D.at_, .int .i64 D.off, .int .i64 D.freq, .int .i64 D.jit, .int .i64 D.wan, .int .i64 D.rest], .int .i64 k, .int .i64 by_, .int .i64 0]) ?_ rfl ⟨rfl, H3.out⟩
    exact results_cell_tmp3E Tryz.results12 _ rfl rfl rfl rfl hl
set_option maxRecDepth 100000 in
set_option maxHeartbeats 12800000 in
theorem lpupd_do1 (p : Pm) (t : p.Typed) (d : Dc) (td : d.Typed) (o at_ n : Int) (o0 : -9223372036854775808 ≤ o ∧ o ≤ 9223372036854775807) (a0 : -9223372036854775808 ≤ at_ ∧ at_ ≤ 9223372036854775807) (D : Dc) (k by_ : Int)
    (hs : (stateI d != 0) = true) (ha : decide (p.panic < absI o) = false) (c : ∀ W, Calls Tryz.prog (actK (stateI d)) #[Nw.val ⟨p, d, o, at_, goneL19 d at_, n⟩] W fun e w' => e = .returned (ddV D k by_) ∧ Below W.heap.size W w') (w : World) :
    Calls Tryz.prog 12 #[p.val, d.val, .int .i64 o, .int .i64 at_, .int .i64 n] w fun e w' => e = .returned (.tuple #[D.val, .int .i64 k, .int .i64 by_, .int .i64 0]) ∧ Below w.heap.size w w' := by
  obtain ⟨W, hW⟩ : ∃ W, ((w.alloc (.cells (pmC p) 25)).alloc (.cells (dcC d) 28)).alloc (.cells #[.int .i64 0, .int .i64 0, .int .i64 0, .int .i64 0, .int .i64 0, .int .i64 0, .int .i64 0] 28) = W := ⟨_, rfl⟩
  obtain ⟨h1, h2, h3, hB, hz⟩ := three_newE _ _ _ _ _ _ _ _ hW
  have c1 : ∀ W, Calls Tryz.prog 19 #[d.val] W fun e w' => e = .returned (.int .i64 (stateI d)) ∧ Below W.heap.size W w' := lpstate_any d
  have c2 := abs_any o o0.1 o0.2
  have c3 := sub_any at_ d.at_ a0.1 a0.2 td.at_.1 td.at_.2
  have m1 := fun ts t => maxD19 (subI at_ d.at_) 0 (goneL19 d at_) (by unfold goneL19; omega) ts t
  have x1 := acts_at (stateI d) (state_in19 d)
  have x2 := acts_enter (stateI d) (state_in19 d)
  have c4 := lpacts_any
  have one := dc_oneE D
  unfold Nw.val Pm.val Dc.val ddV at *
  unfold nwC ddC dcC at *
  dsimp only at *
  generalize goneL19 d at_ = gone at *
  generalize subI at_ d.at_ = sb at *
  generalize absI o = ab at *
  generalize actK (stateI d) = g at *
  generalize stateI d = s at *
  have HH := Lib.hid (And.intro h1 (And.intro h2 (And.intro h3 (And.intro hB hz))))
  unfold pmC at hW
  clear h1 h3 hB hz t td o0 a0
  go_enter Tryz.func12, Tryz.ntmps12
  go_wp2_with (first | (rw [hW]) | (refine at_load_E rfl Tryz.underlying28 info_dcE rfl _ rfl _ rfl h2 rfl ?_))
  (with_reducible refine (c1 _).mono ?_)
  rintro e w1 ⟨rfl, B⟩
  obtain ⟨h1', h2', h3', hB', hz'⟩ := HH.out
  clear h2 hW HH c1
  have h1 := (B.block _ (Array.getElem?_eq_some_iff.1 h1').1).trans h1'
  have h2 := (B.block _ (Array.getElem?_eq_some_iff.1 h2').1).trans h2'
  have h3 := (B.block _ (Array.getElem?_eq_some_iff.1 h3').1).trans h3'
  have hB := hB'.trans (B.mono hB'.size)
  clear h1' h2' h3' hB' hz' B
  have q2 := row_atE h1 2 _ rfl
  have r1 := row_atE h2 1 _ rfl
  have HH := Lib.hid (And.intro h1 (And.intro h2 (And.intro h3 hB)))
  clear h1 h2 h3 hB
  go_upto_region 2 with fail
  go_quiet (with_reducible exact quiet_eq (c2 _))
  go_wp2_with fail
  (with_reducible refine (c3 _).mono ?_)
  rintro e w2 ⟨rfl, rfl⟩
  go_upto_region 5 with fail
  obtain ⟨h1, h2, h3, hB⟩ := HH.out
  have hb8 := below_drewN hB nq
  have hp8 : (w1.drewN nq).heap[w.heap.size]? = _ := h1
  have hd8 : (w1.drewN nq).heap[w.heap.size + 1]? = _ := h2
  have hr8 : (w1.drewN nq).heap[w.heap.size + 1 + 1]? = _ := h3
  clear h1 h2 h3 hB HH q2 r1
  generalize w1.drewN nq = W at *
  have q0 := cell_regrown (row_atE hp8 0 _ rfl)
  have q1 := cell_regrown (row_atE hp8 1 _ rfl)
  have q2 := cell_regrown (row_atE hp8 2 _ rfl)
  have q3 := cell_regrown (row_atE hp8 3 _ rfl)
  have q4 := cell_regrown (row_atE hp8 4 _ rfl)
  have q5 := cell_regrown (row_atE hp8 5 _ rfl)
  have q6 := cell_regrown (row_atE hp8 6 _ rfl)
  have q7 := cell_regrown (row_atE hp8 7 _ rfl)
  have q8 := cell_regrown (row_atE hp8 8 _ rfl)
  have q9 := cell_regrown (row_atE hp8 9 _ rfl)
  have q10 := cell_regrown (row_atE hp8 10 _ rfl)
  have q11 := cell_regrown (row_atE hp8 11 _ rfl)
  have r0 := cell_regrown (row_atE hd8 0 _ rfl)
  have r1 := cell_regrown (row_atE hd8 1 _ rfl)
  have r2 := cell_regrown (row_atE hd8 2 _ rfl)
  have r3 := cell_regrown (row_atE hd8 3 _ rfl)
  have r4 := cell_regrown (row_atE hd8 4 _ rfl)
  have r5 := cell_regrown (row_atE hd8 5 _ rfl)
  have r6 := cell_regrown (row_atE hd8 6 _ rfl)
  have f1 := fun d os => again_of (c4 (grow (redrawn W d) os))
  have f2 := fun d os => again_of (c (grow (redrawn W d) os))
  have HH := Lib.hid (And.intro hr8 hb8)
  have hz8 := (Array.getElem?_eq_some_iff.1 hr8).1
  clear hp8 hd8 hr8 hb8 c c4 c3 c2 m1
  refine wp_region_var 11 16 (ob := .cells #[.int .i64 0, .int .i64 0, .int .i64 0, .int .i64 0, .int .i64 0, .int .i64 0, .int .i64 0, .int .i64 0, .int .i64 0] 58 (0, 0)) (by kernel_rfl) (by kernel_rfl) rfl rfl (fun _ => rfl) rfl (by kernel_rfl) (by simp) (fun a v K hK => by go_simp; exact hK) ?_
  simp only [List.take_succ_cons, List.take_zero, List.drop_succ_cons, List.drop_zero]
  repeat (refine wpR_step (fun K hK => ?_); go_simp; first | (refine hK _ ?_; clear hK K) | (apply Exists.intro; refine ⟨fun _ => ?_, hK _ ?_⟩; (first | (with_reducible exact f1 _ _) | (with_reducible exact f2 _ _)); clear hK K))
  refine wpR_nil ⟨by simp, ?_⟩
  intro bt wv hbt hvt hBv
  clear q0 q1 q2 q3 q4 q5 q6 q7 q8 q9 q10 q11 r0 r1 r2 r3 r4 r5 r6 f1 f2
  have two := dd_oneE D k by_
  unfold ddC at two
  have H2 := Lib.hid hvt
  go_upto_region 6 with (refine at_store_E info_ddE rfl _ _ rfl _ rfl rfl hvt rfl rfl two ?_)
  obtain ⟨hr8, hb8⟩ := HH.out
  have hvt' := H2.out
  clear hvt HH H2
  have s1 := setRow_heap wv bt _ #[.int .i64 D.st, .int .i64 D.at_, .int .i64 D.off, .int .i64 D.freq, .int .i64 D.jit, .int .i64 D.wan, .int .i64 D.rest, .int .i64 k, .int .i64 by_] _ _ hvt'
  have s2 := (setRow_other wv bt (w.heap.size + 1 + 1) #[.int .i64 D.st, .int .i64 D.at_, .int .i64 D.off, .int .i64 D.freq, .int .i64 D.jit, .int .i64 D.wan, .int .i64 D.rest, .int .i64 k, .int .i64 by_] (by omega)).trans ((hBv.block _ (by omega)).trans hr8)
  have s3 := below_setRowE (g := bt) (hb8.trans (hBv.mono hb8.size)) (by have := hb8.size; omega) #[.int .i64 D.st, .int .i64 D.at_, .int .i64 D.off, .int .i64 D.freq, .int .i64 D.jit, .int .i64 D.wan, .int .i64 D.rest, .int .i64 k, .int .i64 by_]
  have ne : bt ≠ w.heap.size + 1 + 1 := by omega
  have ne' : w.heap.size + 1 + 1 ≠ bt := by omega
  clear hvt' hr8 hb8 hBv hbt hz8 two
  generalize wv.setRow bt #[.int .i64 D.st, .int .i64 D.at_, .int .i64 D.off, .int .i64 D.freq, .int .i64 D.jit, .int .i64 D.wan, .int .i64 D.rest, .int .i64 k, .int .i64 by_] = W2 at *
  have q0 := (row_atE s1 0 _ rfl)
  have q1 := (row_atE s1 1 _ rfl)
  have q2 := (row_atE s1 2 _ rfl)
  have q3 := (row_atE s1 3 _ rfl)
  have q4 := (row_atE s1 4 _ rfl)
  have q5 := (row_atE s1 5 _ rfl)
  have q6 := (row_atE s1 6 _ rfl)
  have q7 := (row_atE s1 7 _ rfl)
  have q8 := (row_atE s1 8 _ rfl)
  have HH := Lib.hid (And.intro s2 s3)
  have c0 := row_atE s2 0 _ rfl
  have c1 := row_atE s2 1 _ rfl
  have c2 := row_atE s2 2 _ rfl
  have c3 := row_atE s2 3 _ rfl
  have c4 := row_atE s2 4 _ rfl
  have c5 := row_atE s2 5 _ rfl
  have c6 := row_atE s2 6 _ rfl
  have fr := row_thawE s2
  clear s1 s2 s3
  go_region
  all_goals
    obtain ⟨s2, s3⟩ := HH.out
    obtain ⟨k2, kB⟩ := seven_setE (.int .i64 D.st) (.int .i64 D.at_) (.int .i64 D.off) (.int .i64 D.freq) (.int .i64 D.jit) (.int .i64 D.wan) (.int .i64 D.rest) s2 s3 (show w.heap.size ≤ w.heap.size + 1 + 1 by omega)
    clear s2 s3 HH q0 q1 q2 q3 q4 q5 q6 q7 q8 c0 c1 c2 c3 c4 c5 c6 fr
    generalize (((((((W2.setCell ⟨w.heap.size + 1 + 1, 0, none⟩ (.int .i64 D.st)).setCell ⟨w.heap.size + 1 + 1, 1, none⟩ (.int .i64 D.at_)).setCell ⟨w.heap.size + 1 + 1, 2, none⟩ (.int .i64 D.off)).setCell ⟨w.heap.size + 1 + 1, 3, none⟩ (.int .i64 D.freq)).setCell ⟨w.heap.size + 1 + 1, 4, none⟩ (.int .i64 D.jit)).setCell ⟨w.heap.size + 1 + 1, 5, none⟩ (.int .i64 D.wan)).setCell ⟨w.heap.size + 1 + 1, 6, none⟩ (.int .i64 D.rest)).drew = W3 at *
    have H3 := Lib.hid kB
    clear kB
    have hl := loadVar_E rfl Tryz.underlying28 info_dcE k2 rfl
    clear k2
    go_wp2_with fail
    refine bodyPost_ret (v := .tuple #[.agg #[.int .i64 D.st, .int .i64 D.at_, .int .i64 D.off, .int .i64 D.freq, .int .i64 D.jit, .int .i64 D.wan, .int .i64 D.rest], .int .i64 k, .int .i64 by_, .int .i64 0]) ?_ rfl ⟨rfl, H3.out⟩
    exact results_cell_tmp3E Tryz.results12 _ rfl rfl rfl rfl hl
theorem lpupd_do (p : Pm) (t : p.Typed) (d : Dc) (td : d.Typed) (o at_ n : Int) (o0 : -9223372036854775808 ≤ o ∧ o ≤ 9223372036854775807) (a0 : -9223372036854775808 ≤ at_ ∧ at_ ≤ 9223372036854775807) (D : Dc) (k by_ : Int)
    (hp : (stateI d != 0) = false ∨ ((stateI d != 0) = true ∧ decide (p.panic < absI o) = false)) (c : ∀ W, Calls Tryz.prog (actK (stateI d)) #[Nw.val ⟨p, d, o, at_, goneL19 d at_, n⟩] W fun e w' => e = .returned (ddV D k by_) ∧ Below W.heap.size W w') (w : World) :
    Calls Tryz.prog 12 #[p.val, d.val, .int .i64 o, .int .i64 at_, .int .i64 n] w fun e w' => e = .returned (.tuple #[D.val, .int .i64 k, .int .i64 by_, .int .i64 0]) ∧ Below w.heap.size w w' := by
  rcases hp with hs | ⟨hs, ha⟩
  · exact lpupd_do0 p t d td o at_ n o0 a0 D k by_ hs c w
  · exact lpupd_do1 p t d td o at_ n o0 a0 D k by_ hs ha c w
end Go.Proofs.YtlidlmgmijndcaaGreat.W
