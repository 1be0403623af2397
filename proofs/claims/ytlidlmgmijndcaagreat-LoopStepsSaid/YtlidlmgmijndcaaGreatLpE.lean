/- Layer 19's own code, walked: rows of disciplines, deeds and news; where a discipline begins; what a second slews; by how much a frequency is turned. -/
import Derived.Test.YtlidlmgmijndcaaGreatLpD
import Derived.ChangeOld
namespace Go.Proofs.YtlidlmgmijndcaaGreat.W
open Go.RowKit Go.Sort Go.WideShapes
set_option linter.unusedVariables false
set_option linter.unusedSimpArgs false
theorem info_dcE : (Tryz.prog.info? 28).map (·.size) = some 7 := by kernel_rfl
theorem info_ddE : (Tryz.prog.info? 58).map (·.size) = some 9 := by kernel_rfl
theorem info_nwE : (Tryz.prog.info? 63).map (·.size) = some 23 := by kernel_rfl
theorem below_setRowE {B g : Nat} {w0 w : World} (hb : Below B w0 w) (hBg : B ≤ g) (cs : Array Value) : Below B w0 (w.setRow g cs) :=
  hb.trans ⟨rfl, rfl, rfl, by simp [World.setRow], fun k hk => setRow_other w g k cs (by omega)⟩
theorem loadVar_E {T : TypeId} {u : TypeDesc} {n : Nat} (hs : (match u with | .struct _ | .array _ _ => true | _ => false) = true) (hu : Tryz.prog.underlying T = some u) (hi : (Tryz.prog.info? T).map (·.size) = some n)
    {w : World} {b : Nat} {C : Array Value} {t : TypeId} (h : w.heap[b]? = some (.cells C t (0, 0))) (hn : C.size = n) : (loadVar T ⟨b, 0, none⟩).run Tryz.prog w = .ok (.agg C) w :=
  run_loadVar_row (P := Tryz.prog) w b t T C (0, 0) u h hu (by cases u <;> first | rfl | exact hs) (by rw [hi, hn])
theorem load_E {T : TypeId} {u : TypeDesc} {n : Nat} (hs : (match u with | .struct _ | .array _ _ => true | _ => false) = true) (hu : Tryz.prog.underlying T = some u) (hi : (Tryz.prog.info? T).map (·.size) = some n)
    {w : World} {b : Nat} {C : Array Value} {t : TypeId} (h : w.heap[b]? = some (.cells C t (0, 0))) (hn : C.size = n) : (Instr.loadAt T (.pointer (some ⟨b, 0, none⟩))).run Tryz.prog w = .ok (.agg C) w := by
  have := loadVar_E hs hu hi h hn
  simp only [Instr.loadAt, Instr.sureAddr, Sem.run_bind, Sem.run_pure, Result.andThen_ok, this]
theorem store_E {T : TypeId} {n : Nat} (hi : (Tryz.prog.info? T).map (·.size) = some n)
    {w : World} {b : Nat} {C D : Array Value} {t : TypeId} (h : w.heap[b]? = some (.cells D t (0, 0))) (hD : D.size = n) (hn : C.size = n) (h1 : C.all (·.oneCell') = true) : (Instr.storeAt T (.pointer (some ⟨b, 0, none⟩)) (.agg C)).run Tryz.prog w = .ok () (w.setRow b C) := by
  have := run_storeVar_row (P := Tryz.prog) w b t T D C h (by rw [hi, hn]) (by rw [hD, hn]) h1
  simp only [Instr.storeAt, Instr.sureAddr, Sem.run_bind, Sem.run_pure, Result.andThen_ok, this]
section
variable {ops : Array Oper} {Q : Exit → Act → World → Prop} {rest : List Oper} {o : Oper} {a : Act} {w : World}
theorem at_load_E {T : TypeId} {u : TypeDesc} {n : Nat} (hs : (match u with | .struct _ | .array _ _ => true | _ => false) = true) (hu : Tryz.prog.underlying T = some u) (hi : (Tryz.prog.info? T).map (·.size) = some n)
    (hgd : o.guard = none) (x : Operand) (ho : o.op = .load T x) (b : Nat) (hx : a.eval x = .pointer (some ⟨b, 0, none⟩)) {C : Array Value} {t : TypeId} (hC : w.heap[b]? = some (.cells C t (0, 0))) (hn : C.size = n) (h : wpList Tryz.prog ops Q rest (a.put o.dst (.agg C)) w) : wpList Tryz.prog ops Q (o :: rest) a w :=
  wpList_plain hgd fun K hK => by
    unfold Oper.wp execOp
    simp only [ho, hx, Sem.run_bind, load_E hs hu hi hC hn, Result.andThen_ok, Sem.run_pure]
    exact hK _ _ h
theorem at_store_E {T : TypeId} {n : Nat} (hi : (Tryz.prog.info? T).map (·.size) = some n)
    (hgd : o.guard = none) (x y : Operand) (ho : o.op = .store T x y) (b : Nat) (hx : a.eval x = .pointer (some ⟨b, 0, none⟩)) {C D : Array Value} {t : TypeId} (hy : a.eval y = .agg C) (hD : w.heap[b]? = some (.cells D t (0, 0))) (hd : D.size = n) (hn : C.size = n) (h1 : C.all (·.oneCell') = true) (h : wpList Tryz.prog ops Q rest (a.put o.dst undef) (w.setRow b C)) : wpList Tryz.prog ops Q (o :: rest) a w :=
  wpList_plain hgd fun K hK => by
    unfold Oper.wp execOp
    simp only [ho, hx, hy, Sem.run_bind, store_E hi hD hd hn h1, Result.andThen_ok, Sem.run_pure]
    exact hK _ _ h
end
theorem results_cellE {fn : Func} {t : Tmp} {T : TypeId} (h : fn.results = #[.cell t T]) (tmps : Array Value) {P : Program} {w : World} {ad : Addr} {x : Value} (h1 : tmps.getD t undef = .pointer (some ad)) (hl : (loadVar T ad).run P w = .ok x w) : (results fn tmps).run P w = .ok x w := by
  simp only [Array.getD_eq_getD_getElem?] at h1
  simp [results, h, h1, hl, asAddr]
theorem results_cell_tmpE {fn : Func} {t u : Tmp} {T : TypeId} (h : fn.results = #[.cell t T, .tmp u]) (tmps : Array Value) {P : Program} {w : World} {ad : Addr} {x y : Value} (h1 : tmps.getD t undef = .pointer (some ad)) (h2 : tmps.getD u undef = y) (hl : (loadVar T ad).run P w = .ok x w) : (results fn tmps).run P w = .ok (.tuple #[x, y]) w := by
  simp only [Array.getD_eq_getD_getElem?] at h1 h2
  simp [results, h, h1, h2, hl, asAddr]
theorem results_cell_tmp3E {fn : Func} {t u v z : Tmp} {T : TypeId} (h : fn.results = #[.cell t T, .tmp u, .tmp v, .tmp z]) (tmps : Array Value) {P : Program} {w : World} {ad : Addr} {x y1 y2 y3 : Value} (h1 : tmps.getD t undef = .pointer (some ad)) (h2 : tmps.getD u undef = y1) (h3 : tmps.getD v undef = y2) (h4 : tmps.getD z undef = y3) (hl : (loadVar T ad).run P w = .ok x w) : (results fn tmps).run P w = .ok (.tuple #[x, y1, y2, y3]) w := by
  simp only [Array.getD_eq_getD_getElem?] at h1 h2 h3 h4
  simp [results, h, h1, h2, h3, h4, hl, asAddr]
theorem two_newE (w : World) (A B : Array Value) (ta tb : TypeId) (W : World) (h : (w.alloc (.cells A ta)).alloc (.cells B tb) = W) :
    W.heap[w.heap.size]? = some (.cells A ta (0, 0)) ∧ W.heap[w.heap.size + 1]? = some (.cells B tb (0, 0)) ∧ Below w.heap.size w W ∧ W.heap.size = w.heap.size + 2 := by
  subst h
  have a1 := heap_alloc_new w (.cells A ta)
  have z1 := World.size_alloc w (.cells A ta)
  have b1 := (Below.refl w.heap.size w).alloc (Nat.le_refl _) (.cells A ta)
  generalize w.alloc (.cells A ta) = w1 at *
  have a2 := heap_alloc_new w1 (.cells B tb)
  have z2 := World.size_alloc w1 (.cells B tb)
  have b2 := b1.alloc (by omega) (.cells B tb)
  have c1 := (Below.heap_alloc w1 (.cells B tb) _ (by omega)).trans a1
  rw [z1] at a2
  exact ⟨c1, a2, b2, by omega⟩
theorem three_newE (w : World) (A B C : Array Value) (ta tb tc : TypeId) (W : World) (h : ((w.alloc (.cells A ta)).alloc (.cells B tb)).alloc (.cells C tc) = W) :
    W.heap[w.heap.size]? = some (.cells A ta (0, 0)) ∧ W.heap[w.heap.size + 1]? = some (.cells B tb (0, 0)) ∧ W.heap[w.heap.size + 1 + 1]? = some (.cells C tc (0, 0)) ∧ Below w.heap.size w W ∧ W.heap.size = w.heap.size + 3 := by
  obtain ⟨w2, hw2⟩ : ∃ w2, (w.alloc (.cells A ta)).alloc (.cells B tb) = w2 := ⟨_, rfl⟩
  rw [hw2] at h
  obtain ⟨h1, h2, hB, hz⟩ := two_newE _ _ _ _ _ _ hw2
  subst h
  have a3 := heap_alloc_new w2 (.cells C tc)
  have z3 := World.size_alloc w2 (.cells C tc)
  have b3 := hB.alloc (by omega) (.cells C tc)
  have d1 := (Below.heap_alloc w2 (.cells C tc) _ (by omega)).trans h1
  have d2 := (Below.heap_alloc w2 (.cells C tc) _ (by omega)).trans h2
  rw [hz] at a3
  exact ⟨d1, d2, a3, b3, by omega⟩
theorem dc_oneE (d : Dc) : (dcC d).all (·.oneCell') = true := by simp [Value.oneCell']
set_option maxRecDepth 100000 in
set_option maxHeartbeats 3200000 in
theorem lpstart_any (p : Pm) (t : p.Typed) (hm : -9223372036854775807 ≤ p.maxrate) (f : Int) (f0 : -9223372036854775808 ≤ f ∧ f ≤ 9223372036854775807) (known : Bool) (w : World) :
    Calls Tryz.prog 11 #[p.val, .int .i64 f, .bool known] w fun e w' => e = .returned (startL p f known).val ∧ Below w.heap.size w w' := by
  obtain ⟨W, hW⟩ : ∃ W, (w.alloc (.cells (pmC p) 25)).alloc (.cells #[.int .i64 0, .int .i64 0, .int .i64 0, .int .i64 0, .int .i64 0, .int .i64 0, .int .i64 0] 28) = W := ⟨_, rfl⟩
  obtain ⟨h1, h2, hB, hz⟩ := two_newE _ _ _ _ _ _ hW
  have c := lphold_any p t hm f f0
  cases known with
  | false =>
    have e : (startL p f false).val = .agg #[.int .i64 0, .int .i64 0, .int .i64 0, .int .i64 0, .int .i64 0, .int .i64 0, .int .i64 0] := rfl
    rw [e]
    unfold Pm.val
    unfold pmC at hW h1
    clear e c t hm f0
    have one := dc_oneE ⟨0, 0, 0, 0, 0, 0, 0⟩
    unfold dcC at one
    go_enter Tryz.func11, Tryz.ntmps11
    go_wp2_with (first | (rw [hW]) | (refine at_store_E info_dcE rfl _ _ rfl _ rfl rfl h2 rfl rfl one ?_))
    exact bodyPost_ret (results_cellE Tryz.results11 _ rfl (loadVar_E rfl Tryz.underlying28 info_dcE (setRow_heap W _ _ _ _ _ h2) rfl)) rfl ⟨rfl, below_setRowE hB (by omega) _⟩
  | true =>
    have e : (startL p f true).val = .agg #[.int .i64 1, .int .i64 0, .int .i64 0, .int .i64 (holdL p f), .int .i64 0, .int .i64 0, .int .i64 0] := rfl
    rw [e]
    generalize holdL p f = y at *
    unfold Pm.val at *
    unfold pmC at hW h1
    clear e t hm f0
    have one := dc_oneE ⟨1, 0, 0, y, 0, 0, 0⟩
    unfold dcC at one
    dsimp only at one
    obtain ⟨q0, q1, q2, q3, q4, q5, q6, q7, q8, q9, q10, q11⟩ := twelve_atK h1
    go_enter Tryz.func11, Tryz.ntmps11
    go_wp2_with (rw [hW])
    (with_reducible refine (c _).mono ?_)
    rintro e w2 ⟨rfl, B2⟩
    have k2 := (B2.block _ (by omega)).trans h2
    have BB := hB.trans (B2.mono hB.size)
    have HH := Lib.hid (And.intro k2 BB)
    clear q0 q1 q2 q3 q4 q5 q6 q7 q8 q9 q10 q11 h1 h2 hB hW c
    go_wp2_with (refine at_store_E info_dcE rfl _ _ rfl _ rfl rfl k2 rfl rfl one ?_)
    obtain ⟨k2, BB⟩ := HH.out
    exact bodyPost_ret (results_cellE Tryz.results11 _ rfl (loadVar_E rfl Tryz.underlying28 info_dcE (setRow_heap w2 _ _ _ _ _ k2) rfl)) rfl ⟨rfl, below_setRowE BB (by omega) _⟩
set_option maxRecDepth 100000 in
set_option maxHeartbeats 3200000 in
theorem lptick_any (d : Dc) (td : d.Typed) (n : Int) (n0 : -9223372036854775808 ≤ n ∧ n ≤ 9223372036854775807) (w : World) :
    Calls Tryz.prog 13 #[d.val, .int .i64 n] w fun e w' => e = .returned (.tuple #[(tickD d n).val, .int .i64 (tickL d n)]) ∧ Below w.heap.size w w' := by
  obtain ⟨W, hW⟩ : ∃ W, (w.alloc (.cells (dcC d) 28)).alloc (.cells #[.int .i64 0, .int .i64 0, .int .i64 0, .int .i64 0, .int .i64 0, .int .i64 0, .int .i64 0] 28) = W := ⟨_, rfl⟩
  obtain ⟨h1, h2, hB, hz⟩ := two_newE _ _ _ _ _ _ hW
  have hp : 4 ≤ pollL n ∧ pollL n ≤ 17 := by unfold pollL; omega
  have c1 : ∀ w, Calls Tryz.prog 24 #[.int .i64 n] w fun e w' => e = .returned (.int .i64 (pollL n)) ∧ w = w' := lpwithin_any n
  have c2 := shift_any d.rest (-(pollL n + 4)) td.rest.1 td.rest.2 (by omega) (by omega)
  have r2 := rangeH19 d.rest (-(pollL n + 4))
  have c3 := sub_any d.rest (shiftI d.rest (-(pollL n + 4))) td.rest.1 td.rest.2 r2.1 r2.2
  have v1 : IntKind.i64.wrap (pollL n + 4) = pollL n + 4 := IntWalk.i64_in _ (by omega)
  have v2 : IntKind.i64.wrap (-(pollL n + 4)) = -(pollL n + 4) := IntWalk.i64_in _ (by omega)
  have e : (tickD d n).val = .agg #[.int .i64 d.st, .int .i64 d.at_, .int .i64 d.off, .int .i64 d.freq, .int .i64 d.jit, .int .i64 d.wan, .int .i64 (subI d.rest (shiftI d.rest (-(pollL n + 4))))] := rfl
  rw [e]
  unfold tickL
  generalize pollL n = k at *
  generalize hs : shiftI d.rest (-(k + 4)) = s at *
  generalize subI d.rest s = y at *
  unfold Dc.val
  unfold dcC at hW h1
  have one := dc_oneE ⟨d.st, d.at_, d.off, d.freq, d.jit, d.wan, y⟩
  unfold dcC at one
  dsimp only at one
  clear e hs hp r2 td n0
  go_enter Tryz.func13, Tryz.ntmps13
  go_upto_region 1 with (rw [hW])
  have HH := Lib.hid (And.intro hB (And.intro h1 (And.intro h2 hz)))
  obtain ⟨q0, q1, q2, q3, q4, q5, q6⟩ := seven_inD h1
  clear hW h1 h2 hB hz
  go_quiet (first | (with_reducible exact quiet_eq (c1 _)) | (with_reducible exact quiet_eq (c2 _)))
  obtain ⟨hB, h1, h2, hz⟩ := HH.out
  have hB' := below_drewN hB nq
  have h1' : (W.drewN nq).heap[w.heap.size]? = _ := h1
  have h2' : (W.drewN nq).heap[w.heap.size + 1]? = _ := h2
  clear q0 q1 q2 q3 q4 q5 q6 h1 h2 hB HH
  generalize W.drewN nq = W1 at *
  obtain ⟨q0, q1, q2, q3, q4, q5, q6⟩ := seven_inD h1'
  have th : ∀ j, W1.frozen? ⟨w.heap.size, j, none⟩ = false := fun j => by simp [World.frozen?, h1']
  have k1 := block_set 6 (.int .i64 y) h1'
  have k2 := (block_far (w := W1) 6 (.int .i64 y) (show w.heap.size + 1 ≠ w.heap.size by omega)).trans h2'
  have BB := hB'.setCell (p := ⟨w.heap.size, 6, none⟩) (Nat.le_refl _) (.int .i64 y)
  simp only [List.setIfInBounds_toArray, List.set_cons_zero, List.set_cons_succ] at k1
  have th6 := th 6
  have HH := Lib.hid (And.intro BB (And.intro k1 k2))
  clear th k1 k2 BB h1' h2' hB'
  go_wp2_with fail
  (with_reducible refine (c3 _).mono ?_)
  rintro e w2 ⟨rfl, rfl⟩
  go_upto_region 3 with fail
  obtain ⟨BB, k1, k2⟩ := HH.out
  clear q0 q1 q2 q3 q4 q5 q6 th6 HH
  generalize W1.setCell ⟨w.heap.size, 6, none⟩ (.int .i64 y) = W2 at *
  go_wp2_with (first | (refine at_load_E rfl Tryz.underlying28 info_dcE rfl _ rfl _ rfl k1 rfl ?_) | (refine at_store_E info_dcE rfl _ _ rfl _ rfl rfl k2 rfl rfl one ?_))
  exact bodyPost_ret (results_cell_tmpE Tryz.results13 _ rfl rfl (loadVar_E rfl Tryz.underlying28 info_dcE (setRow_heap W2 _ _ _ _ _ k2) rfl)) rfl ⟨rfl, below_setRowE BB (by omega) _⟩
end Go.Proofs.YtlidlmgmijndcaaGreat.W
