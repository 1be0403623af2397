/- Layer 14's own code, walked: Put (written by wip/genFwP.py). -/
import Derived.Test.YtiadaaihlimloaaGreatFwN
import Derived.Laws.CopyRow
import Derived.Laws.CopyOwn
namespace Go.Proofs.YtiadaaihlimloaaGreat.W
open Go.RowKit Go.Sort
set_option linter.unusedVariables false
set_option linter.unusedSimpArgs false
/-- A filter's row, whatever it says of how many there are. -/
def rowN (l : List Smp) (n : Int) (f : Fl) : Array Value := (Fl.mk l f.had f.used f.off f.total f.jit).cells.setIfInBounds 40 (.int .i64 n)
/-- Eight samples' cells. -/
def arr (l : List Smp) : Array Value := ((Fl.mk l false 0 0 0 0).cells.toList.take 40).toArray
theorem arr_size (l : List Smp) : (arr l).size = 40 := rfl
theorem rowN_size (l : List Smp) (n : Int) (f : Fl) : (rowN l n f).size = 46 := rfl
theorem arr_one (l : List Smp) : (arr l).all (·.oneCell') = true := by simp [arr, Fl.cells, Value.oneCell']
theorem arr_mem (l : List Smp) : ∀ v ∈ (arr l).toList, v.oneCell' = true := fun v hv => (Array.all_eq_true_iff_forall_mem.1 (arr_one l)) v (by simpa using hv)
theorem cells_arr (f : Fl) : f.cells.toList.take 40 = (arr f.l).toList := rfl
theorem rowN_put (s : Smp) (f : Fl) : (f.cells.toList.take 0 ++ (arr [s]).toList ++ f.cells.toList.drop (0 + (arr [s]).toList.length)).toArray = rowN [s] f.l.length f := rfl
theorem rowN_many (l : List Smp) (n m : Int) (f : Fl) : (rowN l n f).setIfInBounds 40 (.int .i64 m) = rowN l m f := rfl
theorem rowN_copy (s : Smp) (n : Int) (f : Fl) (h8 : f.l.length ≤ 8) :
    ((rowN [s] n f).toList.take 5 ++ (arr f.l).toList.take (min f.l.length 7 * 5) ++ (rowN [s] n f).toList.drop (5 + ((arr f.l).toList.take (min f.l.length 7 * 5)).length)).toArray = rowN ((s :: f.l).take 8) n f := by
  obtain ⟨l, had, used, off, total, jit⟩ := f
  dsimp only at *
  match l, h8 with
  | [], _ => rfl
  | [a], _ => rfl
  | [a, b], _ => rfl
  | [a, b, c], _ => rfl
  | [a, b, c, d], _ => rfl
  | [a, b, c, d, e], _ => rfl
  | [a, b, c, d, e, f], _ => rfl
  | [a, b, c, d, e, f, g], _ => rfl
  | [a, b, c, d, e, f, g, h], _ => rfl
theorem rowN_end (s : Smp) (f : Fl) : rowN ((s :: f.l).take 8) (min (f.l.length + 1) 8 : Nat) f = (putF f s).cells := by
  have e : (min (f.l.length + 1) 8 : Nat) = ((s :: f.l).take 8).length := by
    rw [List.length_take, List.length_cons]
    omega
  rw [e]
  rfl
theorem load_flP {w : World} {b : Nat} {f : Fl} (h : rowOf w b = f.cells) : (loadVar 29 ⟨b, 0, none⟩).run Tryz.prog w = .ok (.agg f.cells) w := by
  obtain ⟨t, he⟩ := heap_rowOf (n := 46) (by rw [h]; rfl) (by decide)
  rw [h] at he
  exact run_loadVar_row (P := Tryz.prog) w b t 29 f.cells (0, 0) _ he Tryz.underlying29 rfl info_fl
theorem info_arr : (Tryz.prog.info? 27).map (·.size) = some 40 := by kernel_rfl
theorem info_smp14 : (Tryz.prog.info? 26).map (·.size) = some 5 := by kernel_rfl
theorem load_arr {w : World} {b : Nat} {f : Fl} (h : rowOf w b = f.cells) : (Instr.loadAt 27 (.pointer (some ⟨b, 0, none⟩))).run Tryz.prog w = .ok (.agg (arr f.l)) w := by
  have hl : (loadCells ⟨b, 0, none⟩ (arr f.l).toList.length).run Tryz.prog w = .ok (arr f.l).toList.toArray w :=
    run_loadCells_list (P := Tryz.prog) w ⟨b, 0, none⟩ (arr f.l).toList (fun j v hv => by
      have hadd : (⟨b, 0, none⟩ : Addr).add j = ⟨b, j, none⟩ := by unfold Addr.add; split <;> simp_all
      rw [hadd, fl_at h, ← Array.getElem?_toList]
      rw [← cells_arr] at hv
      have hj : j < 40 := by
        have := (List.getElem?_eq_some_iff.1 hv).1
        rw [List.length_take] at this
        omega
      rw [List.getElem?_take_of_lt hj] at hv
      exact hv)
  have hi := info_arr
  have hs := arr_size f.l
  generalize arr f.l = C at *
  cases hq : Tryz.prog.info? 27 with
  | none => simp [hq] at hi
  | some i =>
    have hz : i.size = 40 := by simpa [hq] using hi
    have hagg : (isAgg 27).run Tryz.prog w = .ok true w := by
      unfold isAgg
      rw [Sem.run_bind, run_underlying Tryz.underlying27 w]
      rfl
    simp only [Array.length_toList, Array.toArray_toList, hs] at hl
    simp only [Instr.loadAt, Instr.sureAddr, Sem.run_bind, Sem.run_pure, Result.andThen_ok]
    simp [loadVar, Sem.run_bind, hagg, sizeOf, typeInfo, hq, hz, hl]
/-- Samples written at the head of a filter's row. -/
theorem store_arr {w : World} {b : Nat} {cur : Array Value} {t : TypeId} (l : List Smp) (h : w.heap[b]? = some (.cells cur t (0, 0))) (hs : 40 ≤ cur.size) :
    (Instr.storeAt 27 (.pointer (some ⟨b, 0, none⟩)) (.agg (arr l))).run Tryz.prog w = .ok () (w.setRow b (cur.toList.take 0 ++ (arr l).toList ++ cur.toList.drop (0 + (arr l).toList.length)).toArray) := by
  have := run_storeCells_at Tryz.prog b 0 t (arr l).toList 0 cur w h (by simp [arr_size]; omega) (arr_mem l)
  have hz := arr_size l
  have hi := info_arr
  generalize arr l = C at *
  cases hq : Tryz.prog.info? 27 with
  | none => simp [hq] at hi
  | some i =>
    have hs2 : i.size = C.size := by simp [hq] at hi; omega
    simp only [Instr.storeAt, Instr.sureAddr, Sem.run_bind, Sem.run_pure, Result.andThen_ok]
    simp [storeVar, sizeOf, typeInfo, hq, Value.cells, hs2]
    simpa using this
/-- 'copy' of structs of k cells. -/
theorem run_copy_struct {P : Program} (w : World) (dT sT ty elem : TypeId) (g o dLen dCap : Nat) (a : Addr) (sLen sCap n k : Nat) (cur : Array Value) (t : TypeId) (cs : List Value)
    (hu : P.underlying dT = some (.slice elem)) (hs : (P.info? elem).map (·.size) = some k)
    (hg : w.heap[g]? = some (.cells cur t (0, 0))) (hn : n = Nat.min sLen dLen) (hl0 : cs.length = n * k)
    (hsrc : ∀ j v, cs[j]? = some v → w.cell? (a.add j) = some v) (hfit : o + cs.length ≤ cur.size) (h1 : ∀ v ∈ cs, v.oneCell' = true) :
    (Builtin.copy_ #[dT, sT] ty #[.slice (some ⟨g, o, none⟩) dLen dCap, .slice (some a) sLen sCap]).run P w =
      .ok (goInt n) (w.setRow g (cur.toList.take o ++ cs ++ cur.toList.drop (o + cs.length)).toArray) := by
  have hl := run_loadCells_list (P := P) w a cs hsrc
  have hst := run_storeCells_at P g o t cs 0 cur w hg (by simpa using hfit) h1
  rw [hl0] at hl
  cases hq : P.info? elem with
  | none => simp [hq] at hs
  | some i =>
    have hi : i.size = k := by simpa [hq] using hs
    simp [Builtin.copy_, run_underlying hu, Builtin.lenOf, Builtin.firstCells, sizeOf, typeInfo, hq, hi, ← hn, hl, hst]
section
variable {P : Program} {ops : Array Oper} {rest : List Oper} {o : Oper} {a : Act} {w w' w0 : World} {Q : Exit → Act → World → Prop} {QR : Act → Prop}
theorem op_load_run {T : TypeId} {pv v : Value} {K : Act → World → Prop} (hw : Region.wanted o (yielded ops a.tmps) = true) (x : Operand) (ho : o.op = .load T x) (hx : a.eval x = pv) (hrun : (Instr.loadAt T pv).run P w = .ok v w) (h : K (a.put o.dst v) w) : if Region.wanted o (yielded ops a.tmps) = true then Oper.wp P o a w K Q else K (a.put o.dst undef) w := by
  rw [if_pos hw]
  unfold Oper.wp execOp
  simp only [ho, hx, Sem.run_bind, hrun, Result.andThen_ok, Sem.run_pure]
  exact h
theorem op_store_run {T : TypeId} {pv v : Value} {K : Act → World → Prop} (hw : Region.wanted o (yielded ops a.tmps) = true) (x y : Operand) (ho : o.op = .store T x y) (hx : a.eval x = pv) (hy : a.eval y = v) (hrun : (Instr.storeAt T pv v).run P w = .ok () w') (h : K (a.put o.dst undef) w') : if Region.wanted o (yielded ops a.tmps) = true then Oper.wp P o a w K Q else K (a.put o.dst undef) w := by
  rw [if_pos hw]
  unfold Oper.wp execOp
  simp only [ho, hx, hy, Sem.run_bind, hrun, Result.andThen_ok, Sem.run_pure]
  exact h
theorem at_store_run {T : TypeId} {pv v : Value} (hgd : o.guard = none) (x y : Operand) (ho : o.op = .store T x y) (hx : a.eval x = pv) (hy : a.eval y = v) (hrun : (Instr.storeAt T pv v).run P w = .ok () w') (h : wpList P ops Q rest (a.put o.dst undef) w') : wpList P ops Q (o :: rest) a w :=
  wpList_plain hgd fun K hK => by
    unfold Oper.wp execOp
    simp only [ho, hx, hy, Sem.run_bind, hrun, Result.andThen_ok, Sem.run_pure]
    exact hK _ _ h
theorem at_copy_run {dT sT : TypeId} {dv sv v : Value} (hgd : o.guard = none) (d s : Operand) (ho : o.op = .call { callee := .builtin .copy, args := #[d, s], argTypes := #[dT, sT] }) (hd : a.eval d = dv) (hs : a.eval s = sv) (hrun : (Builtin.copy_ #[dT, sT] o.type #[dv, sv]).run P w = .ok v w') (h : wpList P ops Q rest (a.put o.dst v) w') : wpList P ops Q (o :: rest) a w :=
  wpList_plain hgd fun K hK => by
    unfold Oper.wp
    simp [execOp, ho, resolve, invoke, builtin, hd, hs, hrun, Result.andThen]
    exact hK _ _ h
end
theorem row_laid {W : World} {b : Nat} {f : Fl} (R : rowOf W b = f.cells) (o : Obj) : rowOf (W.alloc o) b = f.cells := fl_kept R ((Below.refl _ _).alloc (Nat.le_refl _) o)
theorem new_laid {W : World} {b : Nat} {f : Fl} (R : rowOf W b = f.cells) (C : Array Value) (t : TypeId) : (W.alloc (.cells C t)).heap[W.heap.size]? = some (.cells C t (0, 0)) := heap_alloc_new W _
theorem load_flR {w : World} {b : Nat} {f : Fl} (h : rowOf w b = f.cells) : (Instr.loadAt 29 (.pointer (some ⟨b, 0, none⟩))).run Tryz.prog w = .ok (.agg f.cells) w := by
  have := load_fl w b (by rw [h]; rfl)
  rw [h] at this
  exact this
/-- Behind the first row was copied out. -/
theorem put_leaf {wd W : World} {b bo : Nat} {f : Fl} {t : TypeId} {C : Array Value} (l : List Smp) (R : rowOf W b = f.cells) (O : W.heap[bo]? = some (.cells C t (0, 0))) (hC : C.size = 40) (B : Below wd.heap.size wd W) (N : wd.heap.size ≤ bo) (hne : b ≠ bo) :
    wd.heap.size ≤ bo ∧ (W.setRow bo (C.toList.take 0 ++ (arr l).toList ++ C.toList.drop (0 + (arr l).toList.length)).toArray).heap[bo]? = some (.cells (arr l) t (0, 0)) ∧ rowOf (W.setRow bo (C.toList.take 0 ++ (arr l).toList ++ C.toList.drop (0 + (arr l).toList.length)).toArray) b = f.cells ∧
      Below wd.heap.size wd (W.setRow bo (C.toList.take 0 ++ (arr l).toList ++ C.toList.drop (0 + (arr l).toList.length)).toArray) := by
  have e : (C.toList.take 0 ++ (arr l).toList ++ C.toList.drop (0 + (arr l).toList.length)).toArray = arr l := by
    have : C.toList.drop (0 + (arr l).toList.length) = [] := List.drop_eq_nil_of_le (by simp [arr_size, hC])
    rw [this]
    simp
  rw [e]
  refine ⟨N, setRow_heap W bo C _ t _ O, (row_same (setRow_other W bo b _ hne)).trans R, ?_⟩
  exact ⟨B.os, B.tape, B.output, by simpa [World.setRow] using B.size, fun k hk => (setRow_other W bo k _ (by omega)).trans (B.block k hk)⟩
theorem put_result {w : World} {a : Nat} {g : Fl} {tmps : Array Value} (hg : rowOf w a = g.cells) (h4 : tmps[4]? = some (.pointer (some ⟨a, 0, none⟩))) :
    (results Tryz.f9 tmps).run Tryz.prog w = .ok (.agg g.cells) w := by
  have l1 := load_flP hg
  simp [results, Tryz.results9, h4, l1, asAddr, Sem.run_bind, Sem.run_pure, Result.andThen_ok]
set_option maxRecDepth 100000 in
set_option maxHeartbeats 12800000 in
theorem fput_any (f : Fl) (tf : f.Typed) (s : Smp) (ts : s.Typed) (w : World) :
    Calls Tryz.prog 9 #[f.val, s.val] w fun e w' => e = .returned (putF f s).val ∧ Below w.heap.size w w' := by
  have h8 := tf.many
  have ch := fheld_any f h8
  obtain ⟨wd, hwd⟩ : ∃ wd, ((w.alloc (.cells f.cells 29)).alloc (.cells #[.int .i64 s.off, .int .i64 s.del, .int .i64 s.disp, .int .i64 s.at_, .int .i64 s.total] 26)).alloc (.cells Fl.zero.cells 29) = wd := ⟨_, rfl⟩
  obtain ⟨g1, g2, g3, hB, hz⟩ := three_new _ _ _ _ _ _ _ _ hwd
  replace g1 := rowOf_heap g1
  replace g3 := rowOf_heap g3
  unfold Fl.val Smp.val at *
  have hmn : min (f.l.length + 1 : Int) 8 = (min (f.l.length + 1) 8 : Nat) := by omega
  have mm := fun ts t => run_minS (f.l.length + 1 : Int) 8 _ hmn ts t
  generalize hm : (min (f.l.length + 1) 8 : Nat) = m at *
  go_enter Tryz.func9, Tryz.ntmps9
  go_wp2_with (first | (refine at_alloc_fl rfl rfl ?_) | (rw [hwd]))
  clear hwd
  clear mm hmn
  have mm := fun ts t => run_minS (f.l.length + 1 : Int) 8 (m : Int) (by omega) ts t
  have ms : IntKind.i64.wrap ((f.l.length : Int) + 1) = (f.l.length : Int) + 1 := IntWalk.i64_in _ (by omega)
  have R0 : rowOf wd.drew w.heap.size = f.cells := g1
  have B0 : Below wd.heap.size wd wd.drew := below_drewN (Below.refl _ _) 1
  have hsw : w.heap.size < wd.heap.size := by omega
  have HZ := Lib.hid hz
  clear hz
  have G := Lib.hid (And.intro g1 (And.intro g2 (And.intro g3 hB)))
  clear g1 g2 g3 hB
  go_upto_region 1 with fail
  simp only [Act.put, List.setIfInBounds_toArray, List.set_cons_succ, List.set_cons_zero, World.size_alloc]
  go_cut [5, 6] (fun ps n wx => ∃ bo : Nat, ps = .pointer (some ⟨bo, 0, none⟩) ∧ n = .int .i64 (m : Int) ∧ (wd.heap.size ≤ bo ∧ wx.heap[bo]? = some (.cells (arr f.l) 27 (0, 0)) ∧ rowOf wx w.heap.size = f.cells ∧ Below wd.heap.size wd wx))
  case first =>
    refine wp_region_any (by kernel_rfl) ?_
    change wpAny _ _ _ _ _ _ _ (World.drew _)
    refine wpAny_take (i := 0) (v := .pointer (some ⟨w.heap.size, 0, none⟩)) rfl (by kernel_rfl) (by kernel_rfl) (by kernel_rfl) (fun _ _ _ h => h) (Or.inl ⟨by rfl, fun w => by go_simp⟩) ?_
    refine wpAny_ready (rs := [1, 2, 6]) (by kernel_rfl) (by simp) ?_
    refine AllReady.cons rfl (fun K hK => ?_) (AllReady.cons rfl (fun K hK => ?_) (AllReady.cons rfl (fun K hK => ?_) (AllReady.nil)))
    · refine op_load_run (by rfl) _ rfl rfl (load_arr R0) (hK _ _ ?_)
      clear hK K
      refine wpAny_ready (rs := [2, 6]) (by kernel_rfl) (by simp) ?_
      refine AllReady.cons rfl (fun K hK => ?_) (AllReady.cons rfl (fun K hK => ?_) (AllReady.nil))
      · refine op_load_run (by rfl) _ rfl rfl (load_flR R0) (hK _ _ ?_)
        clear hK K
        refine wpAny_ready (rs := [3, 6]) (by kernel_rfl) (by simp) ?_
        refine AllReady.cons rfl (fun K hK => ?_) (AllReady.cons rfl (fun K hK => ?_) (AllReady.nil))
        · go_simp
          refine (ch _).mono ?_
          rintro e v1 ⟨rfl, hb1⟩
          have R1 := fl_kept R0 hb1
          have B1 := B0.trans (hb1.mono B0.size)
          (refine hK _ _ ?_; clear hK K)
          refine wpAny_take (i := 4) (v := .int .i64 ((f.l.length : Int) + 1)) rfl (by kernel_rfl) (by kernel_rfl) (by kernel_rfl) (fun _ _ _ h => h) (Or.inl ⟨by rfl, fun w => by go_simp⟩) ?_
          refine wpAny_take (i := 5) (v := .int .i64 (m : Int)) rfl (by kernel_rfl) (by kernel_rfl) (by kernel_rfl) (fun _ _ _ h => h) (Or.inl ⟨by rfl, fun w => by go_simp⟩) ?_
          refine wpAny_ready (rs := [6]) (by kernel_rfl) (by simp) ?_
          refine AllReady.cons rfl (fun K hK => ?_) (AllReady.nil)
          go_simp
          have R2 := row_laid R1 (.cells #[.int .i64 0, .int .i64 0, .int .i64 0, .int .i64 0, .int .i64 0, .int .i64 0, .int .i64 0, .int .i64 0, .int .i64 0, .int .i64 0, .int .i64 0, .int .i64 0, .int .i64 0, .int .i64 0, .int .i64 0, .int .i64 0, .int .i64 0, .int .i64 0, .int .i64 0, .int .i64 0, .int .i64 0, .int .i64 0, .int .i64 0, .int .i64 0, .int .i64 0, .int .i64 0, .int .i64 0, .int .i64 0, .int .i64 0, .int .i64 0, .int .i64 0, .int .i64 0, .int .i64 0, .int .i64 0, .int .i64 0, .int .i64 0, .int .i64 0, .int .i64 0, .int .i64 0, .int .i64 0] 27)
          have O2 := new_laid R1 #[.int .i64 0, .int .i64 0, .int .i64 0, .int .i64 0, .int .i64 0, .int .i64 0, .int .i64 0, .int .i64 0, .int .i64 0, .int .i64 0, .int .i64 0, .int .i64 0, .int .i64 0, .int .i64 0, .int .i64 0, .int .i64 0, .int .i64 0, .int .i64 0, .int .i64 0, .int .i64 0, .int .i64 0, .int .i64 0, .int .i64 0, .int .i64 0, .int .i64 0, .int .i64 0, .int .i64 0, .int .i64 0, .int .i64 0, .int .i64 0, .int .i64 0, .int .i64 0, .int .i64 0, .int .i64 0, .int .i64 0, .int .i64 0, .int .i64 0, .int .i64 0, .int .i64 0, .int .i64 0] 27
          have N2 := B1.size
          have B2 := B1.alloc B1.size (.cells #[.int .i64 0, .int .i64 0, .int .i64 0, .int .i64 0, .int .i64 0, .int .i64 0, .int .i64 0, .int .i64 0, .int .i64 0, .int .i64 0, .int .i64 0, .int .i64 0, .int .i64 0, .int .i64 0, .int .i64 0, .int .i64 0, .int .i64 0, .int .i64 0, .int .i64 0, .int .i64 0, .int .i64 0, .int .i64 0, .int .i64 0, .int .i64 0, .int .i64 0, .int .i64 0, .int .i64 0, .int .i64 0, .int .i64 0, .int .i64 0, .int .i64 0, .int .i64 0, .int .i64 0, .int .i64 0, .int .i64 0, .int .i64 0, .int .i64 0, .int .i64 0, .int .i64 0, .int .i64 0] 27)
          (refine hK _ _ ?_; clear hK K)
          refine wpAny_ready (rs := [7]) (by kernel_rfl) (by simp) ?_
          refine AllReady.cons rfl (fun K hK => ?_) (AllReady.nil)
          refine op_store_run (by rfl) _ _ rfl rfl rfl (store_arr f.l O2 (by decide)) (hK _ _ ?_)
          clear hK K
          refine wpAny_ready (rs := [8]) (by kernel_rfl) (by simp) ?_
          refine AllReady.cons rfl (fun K hK => ?_) (AllReady.nil)
          go_simp
          (refine hK _ _ ?_; clear hK K)
          refine wpAny_done (by kernel_rfl) ?_ _
          go_wp2_with fail
          go_meet
          exact ⟨_, rfl, rfl, put_leaf f.l R2 O2 rfl B2 N2 (by omega)⟩
        · go_simp
          have R1 := row_laid R0 (.cells #[.int .i64 0, .int .i64 0, .int .i64 0, .int .i64 0, .int .i64 0, .int .i64 0, .int .i64 0, .int .i64 0, .int .i64 0, .int .i64 0, .int .i64 0, .int .i64 0, .int .i64 0, .int .i64 0, .int .i64 0, .int .i64 0, .int .i64 0, .int .i64 0, .int .i64 0, .int .i64 0, .int .i64 0, .int .i64 0, .int .i64 0, .int .i64 0, .int .i64 0, .int .i64 0, .int .i64 0, .int .i64 0, .int .i64 0, .int .i64 0, .int .i64 0, .int .i64 0, .int .i64 0, .int .i64 0, .int .i64 0, .int .i64 0, .int .i64 0, .int .i64 0, .int .i64 0, .int .i64 0] 27)
          have O1 := new_laid R0 #[.int .i64 0, .int .i64 0, .int .i64 0, .int .i64 0, .int .i64 0, .int .i64 0, .int .i64 0, .int .i64 0, .int .i64 0, .int .i64 0, .int .i64 0, .int .i64 0, .int .i64 0, .int .i64 0, .int .i64 0, .int .i64 0, .int .i64 0, .int .i64 0, .int .i64 0, .int .i64 0, .int .i64 0, .int .i64 0, .int .i64 0, .int .i64 0, .int .i64 0, .int .i64 0, .int .i64 0, .int .i64 0, .int .i64 0, .int .i64 0, .int .i64 0, .int .i64 0, .int .i64 0, .int .i64 0, .int .i64 0, .int .i64 0, .int .i64 0, .int .i64 0, .int .i64 0, .int .i64 0] 27
          have N1 := B0.size
          have B1 := B0.alloc B0.size (.cells #[.int .i64 0, .int .i64 0, .int .i64 0, .int .i64 0, .int .i64 0, .int .i64 0, .int .i64 0, .int .i64 0, .int .i64 0, .int .i64 0, .int .i64 0, .int .i64 0, .int .i64 0, .int .i64 0, .int .i64 0, .int .i64 0, .int .i64 0, .int .i64 0, .int .i64 0, .int .i64 0, .int .i64 0, .int .i64 0, .int .i64 0, .int .i64 0, .int .i64 0, .int .i64 0, .int .i64 0, .int .i64 0, .int .i64 0, .int .i64 0, .int .i64 0, .int .i64 0, .int .i64 0, .int .i64 0, .int .i64 0, .int .i64 0, .int .i64 0, .int .i64 0, .int .i64 0, .int .i64 0] 27)
          (refine hK _ _ ?_; clear hK K)
          refine wpAny_ready (rs := [3]) (by kernel_rfl) (by simp) ?_
          refine AllReady.cons rfl (fun K hK => ?_) (AllReady.nil)
          go_simp
          refine (ch _).mono ?_
          rintro e v2 ⟨rfl, hb2⟩
          have R2 := fl_kept R1 hb2
          have B2 := B1.trans (hb2.mono B1.size)
          have O2 := (hb2.block _ (Array.getElem?_eq_some_iff.1 O1).1).trans O1
          (refine hK _ _ ?_; clear hK K)
          refine wpAny_take (i := 4) (v := .int .i64 ((f.l.length : Int) + 1)) rfl (by kernel_rfl) (by kernel_rfl) (by kernel_rfl) (fun _ _ _ h => h) (Or.inl ⟨by rfl, fun w => by go_simp⟩) ?_
          refine wpAny_take (i := 5) (v := .int .i64 (m : Int)) rfl (by kernel_rfl) (by kernel_rfl) (by kernel_rfl) (fun _ _ _ h => h) (Or.inl ⟨by rfl, fun w => by go_simp⟩) ?_
          refine wpAny_ready (rs := [7]) (by kernel_rfl) (by simp) ?_
          refine AllReady.cons rfl (fun K hK => ?_) (AllReady.nil)
          refine op_store_run (by rfl) _ _ rfl rfl rfl (store_arr f.l O2 (by decide)) (hK _ _ ?_)
          clear hK K
          refine wpAny_ready (rs := [8]) (by kernel_rfl) (by simp) ?_
          refine AllReady.cons rfl (fun K hK => ?_) (AllReady.nil)
          go_simp
          (refine hK _ _ ?_; clear hK K)
          refine wpAny_done (by kernel_rfl) ?_ _
          go_wp2_with fail
          go_meet
          exact ⟨_, rfl, rfl, put_leaf f.l R2 O2 rfl B2 N1 (by omega)⟩
      · go_simp
        have R1 := row_laid R0 (.cells #[.int .i64 0, .int .i64 0, .int .i64 0, .int .i64 0, .int .i64 0, .int .i64 0, .int .i64 0, .int .i64 0, .int .i64 0, .int .i64 0, .int .i64 0, .int .i64 0, .int .i64 0, .int .i64 0, .int .i64 0, .int .i64 0, .int .i64 0, .int .i64 0, .int .i64 0, .int .i64 0, .int .i64 0, .int .i64 0, .int .i64 0, .int .i64 0, .int .i64 0, .int .i64 0, .int .i64 0, .int .i64 0, .int .i64 0, .int .i64 0, .int .i64 0, .int .i64 0, .int .i64 0, .int .i64 0, .int .i64 0, .int .i64 0, .int .i64 0, .int .i64 0, .int .i64 0, .int .i64 0] 27)
        have O1 := new_laid R0 #[.int .i64 0, .int .i64 0, .int .i64 0, .int .i64 0, .int .i64 0, .int .i64 0, .int .i64 0, .int .i64 0, .int .i64 0, .int .i64 0, .int .i64 0, .int .i64 0, .int .i64 0, .int .i64 0, .int .i64 0, .int .i64 0, .int .i64 0, .int .i64 0, .int .i64 0, .int .i64 0, .int .i64 0, .int .i64 0, .int .i64 0, .int .i64 0, .int .i64 0, .int .i64 0, .int .i64 0, .int .i64 0, .int .i64 0, .int .i64 0, .int .i64 0, .int .i64 0, .int .i64 0, .int .i64 0, .int .i64 0, .int .i64 0, .int .i64 0, .int .i64 0, .int .i64 0, .int .i64 0] 27
        have N1 := B0.size
        have B1 := B0.alloc B0.size (.cells #[.int .i64 0, .int .i64 0, .int .i64 0, .int .i64 0, .int .i64 0, .int .i64 0, .int .i64 0, .int .i64 0, .int .i64 0, .int .i64 0, .int .i64 0, .int .i64 0, .int .i64 0, .int .i64 0, .int .i64 0, .int .i64 0, .int .i64 0, .int .i64 0, .int .i64 0, .int .i64 0, .int .i64 0, .int .i64 0, .int .i64 0, .int .i64 0, .int .i64 0, .int .i64 0, .int .i64 0, .int .i64 0, .int .i64 0, .int .i64 0, .int .i64 0, .int .i64 0, .int .i64 0, .int .i64 0, .int .i64 0, .int .i64 0, .int .i64 0, .int .i64 0, .int .i64 0, .int .i64 0] 27)
        (refine hK _ _ ?_; clear hK K)
        refine wpAny_ready (rs := [2]) (by kernel_rfl) (by simp) ?_
        refine AllReady.cons rfl (fun K hK => ?_) (AllReady.nil)
        refine op_load_run (by rfl) _ rfl rfl (load_flR R1) (hK _ _ ?_)
        clear hK K
        refine wpAny_ready (rs := [3]) (by kernel_rfl) (by simp) ?_
        refine AllReady.cons rfl (fun K hK => ?_) (AllReady.nil)
        go_simp
        refine (ch _).mono ?_
        rintro e v2 ⟨rfl, hb2⟩
        have R2 := fl_kept R1 hb2
        have B2 := B1.trans (hb2.mono B1.size)
        have O2 := (hb2.block _ (Array.getElem?_eq_some_iff.1 O1).1).trans O1
        (refine hK _ _ ?_; clear hK K)
        refine wpAny_take (i := 4) (v := .int .i64 ((f.l.length : Int) + 1)) rfl (by kernel_rfl) (by kernel_rfl) (by kernel_rfl) (fun _ _ _ h => h) (Or.inl ⟨by rfl, fun w => by go_simp⟩) ?_
        refine wpAny_take (i := 5) (v := .int .i64 (m : Int)) rfl (by kernel_rfl) (by kernel_rfl) (by kernel_rfl) (fun _ _ _ h => h) (Or.inl ⟨by rfl, fun w => by go_simp⟩) ?_
        refine wpAny_ready (rs := [7]) (by kernel_rfl) (by simp) ?_
        refine AllReady.cons rfl (fun K hK => ?_) (AllReady.nil)
        refine op_store_run (by rfl) _ _ rfl rfl rfl (store_arr f.l O2 (by decide)) (hK _ _ ?_)
        clear hK K
        refine wpAny_ready (rs := [8]) (by kernel_rfl) (by simp) ?_
        refine AllReady.cons rfl (fun K hK => ?_) (AllReady.nil)
        go_simp
        (refine hK _ _ ?_; clear hK K)
        refine wpAny_done (by kernel_rfl) ?_ _
        go_wp2_with fail
        go_meet
        exact ⟨_, rfl, rfl, put_leaf f.l R2 O2 rfl B2 N1 (by omega)⟩
    · refine op_load_run (by rfl) _ rfl rfl (load_flR R0) (hK _ _ ?_)
      clear hK K
      refine wpAny_ready (rs := [1, 3, 6]) (by kernel_rfl) (by simp) ?_
      refine AllReady.cons rfl (fun K hK => ?_) (AllReady.cons rfl (fun K hK => ?_) (AllReady.cons rfl (fun K hK => ?_) (AllReady.nil)))
      · refine op_load_run (by rfl) _ rfl rfl (load_arr R0) (hK _ _ ?_)
        clear hK K
        refine wpAny_ready (rs := [3, 6]) (by kernel_rfl) (by simp) ?_
        refine AllReady.cons rfl (fun K hK => ?_) (AllReady.cons rfl (fun K hK => ?_) (AllReady.nil))
        · go_simp
          refine (ch _).mono ?_
          rintro e v1 ⟨rfl, hb1⟩
          have R1 := fl_kept R0 hb1
          have B1 := B0.trans (hb1.mono B0.size)
          (refine hK _ _ ?_; clear hK K)
          refine wpAny_take (i := 4) (v := .int .i64 ((f.l.length : Int) + 1)) rfl (by kernel_rfl) (by kernel_rfl) (by kernel_rfl) (fun _ _ _ h => h) (Or.inl ⟨by rfl, fun w => by go_simp⟩) ?_
          refine wpAny_take (i := 5) (v := .int .i64 (m : Int)) rfl (by kernel_rfl) (by kernel_rfl) (by kernel_rfl) (fun _ _ _ h => h) (Or.inl ⟨by rfl, fun w => by go_simp⟩) ?_
          refine wpAny_ready (rs := [6]) (by kernel_rfl) (by simp) ?_
          refine AllReady.cons rfl (fun K hK => ?_) (AllReady.nil)
          go_simp
          have R2 := row_laid R1 (.cells #[.int .i64 0, .int .i64 0, .int .i64 0, .int .i64 0, .int .i64 0, .int .i64 0, .int .i64 0, .int .i64 0, .int .i64 0, .int .i64 0, .int .i64 0, .int .i64 0, .int .i64 0, .int .i64 0, .int .i64 0, .int .i64 0, .int .i64 0, .int .i64 0, .int .i64 0, .int .i64 0, .int .i64 0, .int .i64 0, .int .i64 0, .int .i64 0, .int .i64 0, .int .i64 0, .int .i64 0, .int .i64 0, .int .i64 0, .int .i64 0, .int .i64 0, .int .i64 0, .int .i64 0, .int .i64 0, .int .i64 0, .int .i64 0, .int .i64 0, .int .i64 0, .int .i64 0, .int .i64 0] 27)
          have O2 := new_laid R1 #[.int .i64 0, .int .i64 0, .int .i64 0, .int .i64 0, .int .i64 0, .int .i64 0, .int .i64 0, .int .i64 0, .int .i64 0, .int .i64 0, .int .i64 0, .int .i64 0, .int .i64 0, .int .i64 0, .int .i64 0, .int .i64 0, .int .i64 0, .int .i64 0, .int .i64 0, .int .i64 0, .int .i64 0, .int .i64 0, .int .i64 0, .int .i64 0, .int .i64 0, .int .i64 0, .int .i64 0, .int .i64 0, .int .i64 0, .int .i64 0, .int .i64 0, .int .i64 0, .int .i64 0, .int .i64 0, .int .i64 0, .int .i64 0, .int .i64 0, .int .i64 0, .int .i64 0, .int .i64 0] 27
          have N2 := B1.size
          have B2 := B1.alloc B1.size (.cells #[.int .i64 0, .int .i64 0, .int .i64 0, .int .i64 0, .int .i64 0, .int .i64 0, .int .i64 0, .int .i64 0, .int .i64 0, .int .i64 0, .int .i64 0, .int .i64 0, .int .i64 0, .int .i64 0, .int .i64 0, .int .i64 0, .int .i64 0, .int .i64 0, .int .i64 0, .int .i64 0, .int .i64 0, .int .i64 0, .int .i64 0, .int .i64 0, .int .i64 0, .int .i64 0, .int .i64 0, .int .i64 0, .int .i64 0, .int .i64 0, .int .i64 0, .int .i64 0, .int .i64 0, .int .i64 0, .int .i64 0, .int .i64 0, .int .i64 0, .int .i64 0, .int .i64 0, .int .i64 0] 27)
          (refine hK _ _ ?_; clear hK K)
          refine wpAny_ready (rs := [7]) (by kernel_rfl) (by simp) ?_
          refine AllReady.cons rfl (fun K hK => ?_) (AllReady.nil)
          refine op_store_run (by rfl) _ _ rfl rfl rfl (store_arr f.l O2 (by decide)) (hK _ _ ?_)
          clear hK K
          refine wpAny_ready (rs := [8]) (by kernel_rfl) (by simp) ?_
          refine AllReady.cons rfl (fun K hK => ?_) (AllReady.nil)
          go_simp
          (refine hK _ _ ?_; clear hK K)
          refine wpAny_done (by kernel_rfl) ?_ _
          go_wp2_with fail
          go_meet
          exact ⟨_, rfl, rfl, put_leaf f.l R2 O2 rfl B2 N2 (by omega)⟩
        · go_simp
          have R1 := row_laid R0 (.cells #[.int .i64 0, .int .i64 0, .int .i64 0, .int .i64 0, .int .i64 0, .int .i64 0, .int .i64 0, .int .i64 0, .int .i64 0, .int .i64 0, .int .i64 0, .int .i64 0, .int .i64 0, .int .i64 0, .int .i64 0, .int .i64 0, .int .i64 0, .int .i64 0, .int .i64 0, .int .i64 0, .int .i64 0, .int .i64 0, .int .i64 0, .int .i64 0, .int .i64 0, .int .i64 0, .int .i64 0, .int .i64 0, .int .i64 0, .int .i64 0, .int .i64 0, .int .i64 0, .int .i64 0, .int .i64 0, .int .i64 0, .int .i64 0, .int .i64 0, .int .i64 0, .int .i64 0, .int .i64 0] 27)
          have O1 := new_laid R0 #[.int .i64 0, .int .i64 0, .int .i64 0, .int .i64 0, .int .i64 0, .int .i64 0, .int .i64 0, .int .i64 0, .int .i64 0, .int .i64 0, .int .i64 0, .int .i64 0, .int .i64 0, .int .i64 0, .int .i64 0, .int .i64 0, .int .i64 0, .int .i64 0, .int .i64 0, .int .i64 0, .int .i64 0, .int .i64 0, .int .i64 0, .int .i64 0, .int .i64 0, .int .i64 0, .int .i64 0, .int .i64 0, .int .i64 0, .int .i64 0, .int .i64 0, .int .i64 0, .int .i64 0, .int .i64 0, .int .i64 0, .int .i64 0, .int .i64 0, .int .i64 0, .int .i64 0, .int .i64 0] 27
          have N1 := B0.size
          have B1 := B0.alloc B0.size (.cells #[.int .i64 0, .int .i64 0, .int .i64 0, .int .i64 0, .int .i64 0, .int .i64 0, .int .i64 0, .int .i64 0, .int .i64 0, .int .i64 0, .int .i64 0, .int .i64 0, .int .i64 0, .int .i64 0, .int .i64 0, .int .i64 0, .int .i64 0, .int .i64 0, .int .i64 0, .int .i64 0, .int .i64 0, .int .i64 0, .int .i64 0, .int .i64 0, .int .i64 0, .int .i64 0, .int .i64 0, .int .i64 0, .int .i64 0, .int .i64 0, .int .i64 0, .int .i64 0, .int .i64 0, .int .i64 0, .int .i64 0, .int .i64 0, .int .i64 0, .int .i64 0, .int .i64 0, .int .i64 0] 27)
          (refine hK _ _ ?_; clear hK K)
          refine wpAny_ready (rs := [3]) (by kernel_rfl) (by simp) ?_
          refine AllReady.cons rfl (fun K hK => ?_) (AllReady.nil)
          go_simp
          refine (ch _).mono ?_
          rintro e v2 ⟨rfl, hb2⟩
          have R2 := fl_kept R1 hb2
          have B2 := B1.trans (hb2.mono B1.size)
          have O2 := (hb2.block _ (Array.getElem?_eq_some_iff.1 O1).1).trans O1
          (refine hK _ _ ?_; clear hK K)
          refine wpAny_take (i := 4) (v := .int .i64 ((f.l.length : Int) + 1)) rfl (by kernel_rfl) (by kernel_rfl) (by kernel_rfl) (fun _ _ _ h => h) (Or.inl ⟨by rfl, fun w => by go_simp⟩) ?_
          refine wpAny_take (i := 5) (v := .int .i64 (m : Int)) rfl (by kernel_rfl) (by kernel_rfl) (by kernel_rfl) (fun _ _ _ h => h) (Or.inl ⟨by rfl, fun w => by go_simp⟩) ?_
          refine wpAny_ready (rs := [7]) (by kernel_rfl) (by simp) ?_
          refine AllReady.cons rfl (fun K hK => ?_) (AllReady.nil)
          refine op_store_run (by rfl) _ _ rfl rfl rfl (store_arr f.l O2 (by decide)) (hK _ _ ?_)
          clear hK K
          refine wpAny_ready (rs := [8]) (by kernel_rfl) (by simp) ?_
          refine AllReady.cons rfl (fun K hK => ?_) (AllReady.nil)
          go_simp
          (refine hK _ _ ?_; clear hK K)
          refine wpAny_done (by kernel_rfl) ?_ _
          go_wp2_with fail
          go_meet
          exact ⟨_, rfl, rfl, put_leaf f.l R2 O2 rfl B2 N1 (by omega)⟩
      · go_simp
        refine (ch _).mono ?_
        rintro e v1 ⟨rfl, hb1⟩
        have R1 := fl_kept R0 hb1
        have B1 := B0.trans (hb1.mono B0.size)
        (refine hK _ _ ?_; clear hK K)
        refine wpAny_take (i := 4) (v := .int .i64 ((f.l.length : Int) + 1)) rfl (by kernel_rfl) (by kernel_rfl) (by kernel_rfl) (fun _ _ _ h => h) (Or.inl ⟨by rfl, fun w => by go_simp⟩) ?_
        refine wpAny_take (i := 5) (v := .int .i64 (m : Int)) rfl (by kernel_rfl) (by kernel_rfl) (by kernel_rfl) (fun _ _ _ h => h) (Or.inl ⟨by rfl, fun w => by go_simp⟩) ?_
        refine wpAny_ready (rs := [1, 6]) (by kernel_rfl) (by simp) ?_
        refine AllReady.cons rfl (fun K hK => ?_) (AllReady.cons rfl (fun K hK => ?_) (AllReady.nil))
        · refine op_load_run (by rfl) _ rfl rfl (load_arr R1) (hK _ _ ?_)
          clear hK K
          refine wpAny_ready (rs := [6]) (by kernel_rfl) (by simp) ?_
          refine AllReady.cons rfl (fun K hK => ?_) (AllReady.nil)
          go_simp
          have R2 := row_laid R1 (.cells #[.int .i64 0, .int .i64 0, .int .i64 0, .int .i64 0, .int .i64 0, .int .i64 0, .int .i64 0, .int .i64 0, .int .i64 0, .int .i64 0, .int .i64 0, .int .i64 0, .int .i64 0, .int .i64 0, .int .i64 0, .int .i64 0, .int .i64 0, .int .i64 0, .int .i64 0, .int .i64 0, .int .i64 0, .int .i64 0, .int .i64 0, .int .i64 0, .int .i64 0, .int .i64 0, .int .i64 0, .int .i64 0, .int .i64 0, .int .i64 0, .int .i64 0, .int .i64 0, .int .i64 0, .int .i64 0, .int .i64 0, .int .i64 0, .int .i64 0, .int .i64 0, .int .i64 0, .int .i64 0] 27)
          have O2 := new_laid R1 #[.int .i64 0, .int .i64 0, .int .i64 0, .int .i64 0, .int .i64 0, .int .i64 0, .int .i64 0, .int .i64 0, .int .i64 0, .int .i64 0, .int .i64 0, .int .i64 0, .int .i64 0, .int .i64 0, .int .i64 0, .int .i64 0, .int .i64 0, .int .i64 0, .int .i64 0, .int .i64 0, .int .i64 0, .int .i64 0, .int .i64 0, .int .i64 0, .int .i64 0, .int .i64 0, .int .i64 0, .int .i64 0, .int .i64 0, .int .i64 0, .int .i64 0, .int .i64 0, .int .i64 0, .int .i64 0, .int .i64 0, .int .i64 0, .int .i64 0, .int .i64 0, .int .i64 0, .int .i64 0] 27
          have N2 := B1.size
          have B2 := B1.alloc B1.size (.cells #[.int .i64 0, .int .i64 0, .int .i64 0, .int .i64 0, .int .i64 0, .int .i64 0, .int .i64 0, .int .i64 0, .int .i64 0, .int .i64 0, .int .i64 0, .int .i64 0, .int .i64 0, .int .i64 0, .int .i64 0, .int .i64 0, .int .i64 0, .int .i64 0, .int .i64 0, .int .i64 0, .int .i64 0, .int .i64 0, .int .i64 0, .int .i64 0, .int .i64 0, .int .i64 0, .int .i64 0, .int .i64 0, .int .i64 0, .int .i64 0, .int .i64 0, .int .i64 0, .int .i64 0, .int .i64 0, .int .i64 0, .int .i64 0, .int .i64 0, .int .i64 0, .int .i64 0, .int .i64 0] 27)
          (refine hK _ _ ?_; clear hK K)
          refine wpAny_ready (rs := [7]) (by kernel_rfl) (by simp) ?_
          refine AllReady.cons rfl (fun K hK => ?_) (AllReady.nil)
          refine op_store_run (by rfl) _ _ rfl rfl rfl (store_arr f.l O2 (by decide)) (hK _ _ ?_)
          clear hK K
          refine wpAny_ready (rs := [8]) (by kernel_rfl) (by simp) ?_
          refine AllReady.cons rfl (fun K hK => ?_) (AllReady.nil)
          go_simp
          (refine hK _ _ ?_; clear hK K)
          refine wpAny_done (by kernel_rfl) ?_ _
          go_wp2_with fail
          go_meet
          exact ⟨_, rfl, rfl, put_leaf f.l R2 O2 rfl B2 N2 (by omega)⟩
        · go_simp
          have R2 := row_laid R1 (.cells #[.int .i64 0, .int .i64 0, .int .i64 0, .int .i64 0, .int .i64 0, .int .i64 0, .int .i64 0, .int .i64 0, .int .i64 0, .int .i64 0, .int .i64 0, .int .i64 0, .int .i64 0, .int .i64 0, .int .i64 0, .int .i64 0, .int .i64 0, .int .i64 0, .int .i64 0, .int .i64 0, .int .i64 0, .int .i64 0, .int .i64 0, .int .i64 0, .int .i64 0, .int .i64 0, .int .i64 0, .int .i64 0, .int .i64 0, .int .i64 0, .int .i64 0, .int .i64 0, .int .i64 0, .int .i64 0, .int .i64 0, .int .i64 0, .int .i64 0, .int .i64 0, .int .i64 0, .int .i64 0] 27)
          have O2 := new_laid R1 #[.int .i64 0, .int .i64 0, .int .i64 0, .int .i64 0, .int .i64 0, .int .i64 0, .int .i64 0, .int .i64 0, .int .i64 0, .int .i64 0, .int .i64 0, .int .i64 0, .int .i64 0, .int .i64 0, .int .i64 0, .int .i64 0, .int .i64 0, .int .i64 0, .int .i64 0, .int .i64 0, .int .i64 0, .int .i64 0, .int .i64 0, .int .i64 0, .int .i64 0, .int .i64 0, .int .i64 0, .int .i64 0, .int .i64 0, .int .i64 0, .int .i64 0, .int .i64 0, .int .i64 0, .int .i64 0, .int .i64 0, .int .i64 0, .int .i64 0, .int .i64 0, .int .i64 0, .int .i64 0] 27
          have N2 := B1.size
          have B2 := B1.alloc B1.size (.cells #[.int .i64 0, .int .i64 0, .int .i64 0, .int .i64 0, .int .i64 0, .int .i64 0, .int .i64 0, .int .i64 0, .int .i64 0, .int .i64 0, .int .i64 0, .int .i64 0, .int .i64 0, .int .i64 0, .int .i64 0, .int .i64 0, .int .i64 0, .int .i64 0, .int .i64 0, .int .i64 0, .int .i64 0, .int .i64 0, .int .i64 0, .int .i64 0, .int .i64 0, .int .i64 0, .int .i64 0, .int .i64 0, .int .i64 0, .int .i64 0, .int .i64 0, .int .i64 0, .int .i64 0, .int .i64 0, .int .i64 0, .int .i64 0, .int .i64 0, .int .i64 0, .int .i64 0, .int .i64 0] 27)
          (refine hK _ _ ?_; clear hK K)
          refine wpAny_ready (rs := [1]) (by kernel_rfl) (by simp) ?_
          refine AllReady.cons rfl (fun K hK => ?_) (AllReady.nil)
          refine op_load_run (by rfl) _ rfl rfl (load_arr R2) (hK _ _ ?_)
          clear hK K
          refine wpAny_ready (rs := [7]) (by kernel_rfl) (by simp) ?_
          refine AllReady.cons rfl (fun K hK => ?_) (AllReady.nil)
          refine op_store_run (by rfl) _ _ rfl rfl rfl (store_arr f.l O2 (by decide)) (hK _ _ ?_)
          clear hK K
          refine wpAny_ready (rs := [8]) (by kernel_rfl) (by simp) ?_
          refine AllReady.cons rfl (fun K hK => ?_) (AllReady.nil)
          go_simp
          (refine hK _ _ ?_; clear hK K)
          refine wpAny_done (by kernel_rfl) ?_ _
          go_wp2_with fail
          go_meet
          exact ⟨_, rfl, rfl, put_leaf f.l R2 O2 rfl B2 N2 (by omega)⟩
      · go_simp
        have R1 := row_laid R0 (.cells #[.int .i64 0, .int .i64 0, .int .i64 0, .int .i64 0, .int .i64 0, .int .i64 0, .int .i64 0, .int .i64 0, .int .i64 0, .int .i64 0, .int .i64 0, .int .i64 0, .int .i64 0, .int .i64 0, .int .i64 0, .int .i64 0, .int .i64 0, .int .i64 0, .int .i64 0, .int .i64 0, .int .i64 0, .int .i64 0, .int .i64 0, .int .i64 0, .int .i64 0, .int .i64 0, .int .i64 0, .int .i64 0, .int .i64 0, .int .i64 0, .int .i64 0, .int .i64 0, .int .i64 0, .int .i64 0, .int .i64 0, .int .i64 0, .int .i64 0, .int .i64 0, .int .i64 0, .int .i64 0] 27)
        have O1 := new_laid R0 #[.int .i64 0, .int .i64 0, .int .i64 0, .int .i64 0, .int .i64 0, .int .i64 0, .int .i64 0, .int .i64 0, .int .i64 0, .int .i64 0, .int .i64 0, .int .i64 0, .int .i64 0, .int .i64 0, .int .i64 0, .int .i64 0, .int .i64 0, .int .i64 0, .int .i64 0, .int .i64 0, .int .i64 0, .int .i64 0, .int .i64 0, .int .i64 0, .int .i64 0, .int .i64 0, .int .i64 0, .int .i64 0, .int .i64 0, .int .i64 0, .int .i64 0, .int .i64 0, .int .i64 0, .int .i64 0, .int .i64 0, .int .i64 0, .int .i64 0, .int .i64 0, .int .i64 0, .int .i64 0] 27
        have N1 := B0.size
        have B1 := B0.alloc B0.size (.cells #[.int .i64 0, .int .i64 0, .int .i64 0, .int .i64 0, .int .i64 0, .int .i64 0, .int .i64 0, .int .i64 0, .int .i64 0, .int .i64 0, .int .i64 0, .int .i64 0, .int .i64 0, .int .i64 0, .int .i64 0, .int .i64 0, .int .i64 0, .int .i64 0, .int .i64 0, .int .i64 0, .int .i64 0, .int .i64 0, .int .i64 0, .int .i64 0, .int .i64 0, .int .i64 0, .int .i64 0, .int .i64 0, .int .i64 0, .int .i64 0, .int .i64 0, .int .i64 0, .int .i64 0, .int .i64 0, .int .i64 0, .int .i64 0, .int .i64 0, .int .i64 0, .int .i64 0, .int .i64 0] 27)
        (refine hK _ _ ?_; clear hK K)
        refine wpAny_ready (rs := [1, 3]) (by kernel_rfl) (by simp) ?_
        refine AllReady.cons rfl (fun K hK => ?_) (AllReady.cons rfl (fun K hK => ?_) (AllReady.nil))
        · refine op_load_run (by rfl) _ rfl rfl (load_arr R1) (hK _ _ ?_)
          clear hK K
          refine wpAny_ready (rs := [3]) (by kernel_rfl) (by simp) ?_
          refine AllReady.cons rfl (fun K hK => ?_) (AllReady.nil)
          go_simp
          refine (ch _).mono ?_
          rintro e v2 ⟨rfl, hb2⟩
          have R2 := fl_kept R1 hb2
          have B2 := B1.trans (hb2.mono B1.size)
          have O2 := (hb2.block _ (Array.getElem?_eq_some_iff.1 O1).1).trans O1
          (refine hK _ _ ?_; clear hK K)
          refine wpAny_take (i := 4) (v := .int .i64 ((f.l.length : Int) + 1)) rfl (by kernel_rfl) (by kernel_rfl) (by kernel_rfl) (fun _ _ _ h => h) (Or.inl ⟨by rfl, fun w => by go_simp⟩) ?_
          refine wpAny_take (i := 5) (v := .int .i64 (m : Int)) rfl (by kernel_rfl) (by kernel_rfl) (by kernel_rfl) (fun _ _ _ h => h) (Or.inl ⟨by rfl, fun w => by go_simp⟩) ?_
          refine wpAny_ready (rs := [7]) (by kernel_rfl) (by simp) ?_
          refine AllReady.cons rfl (fun K hK => ?_) (AllReady.nil)
          refine op_store_run (by rfl) _ _ rfl rfl rfl (store_arr f.l O2 (by decide)) (hK _ _ ?_)
          clear hK K
          refine wpAny_ready (rs := [8]) (by kernel_rfl) (by simp) ?_
          refine AllReady.cons rfl (fun K hK => ?_) (AllReady.nil)
          go_simp
          (refine hK _ _ ?_; clear hK K)
          refine wpAny_done (by kernel_rfl) ?_ _
          go_wp2_with fail
          go_meet
          exact ⟨_, rfl, rfl, put_leaf f.l R2 O2 rfl B2 N1 (by omega)⟩
        · go_simp
          refine (ch _).mono ?_
          rintro e v2 ⟨rfl, hb2⟩
          have R2 := fl_kept R1 hb2
          have B2 := B1.trans (hb2.mono B1.size)
          have O2 := (hb2.block _ (Array.getElem?_eq_some_iff.1 O1).1).trans O1
          (refine hK _ _ ?_; clear hK K)
          refine wpAny_take (i := 4) (v := .int .i64 ((f.l.length : Int) + 1)) rfl (by kernel_rfl) (by kernel_rfl) (by kernel_rfl) (fun _ _ _ h => h) (Or.inl ⟨by rfl, fun w => by go_simp⟩) ?_
          refine wpAny_take (i := 5) (v := .int .i64 (m : Int)) rfl (by kernel_rfl) (by kernel_rfl) (by kernel_rfl) (fun _ _ _ h => h) (Or.inl ⟨by rfl, fun w => by go_simp⟩) ?_
          refine wpAny_ready (rs := [1]) (by kernel_rfl) (by simp) ?_
          refine AllReady.cons rfl (fun K hK => ?_) (AllReady.nil)
          refine op_load_run (by rfl) _ rfl rfl (load_arr R2) (hK _ _ ?_)
          clear hK K
          refine wpAny_ready (rs := [7]) (by kernel_rfl) (by simp) ?_
          refine AllReady.cons rfl (fun K hK => ?_) (AllReady.nil)
          refine op_store_run (by rfl) _ _ rfl rfl rfl (store_arr f.l O2 (by decide)) (hK _ _ ?_)
          clear hK K
          refine wpAny_ready (rs := [8]) (by kernel_rfl) (by simp) ?_
          refine AllReady.cons rfl (fun K hK => ?_) (AllReady.nil)
          go_simp
          (refine hK _ _ ?_; clear hK K)
          refine wpAny_done (by kernel_rfl) ?_ _
          go_wp2_with fail
          go_meet
          exact ⟨_, rfl, rfl, put_leaf f.l R2 O2 rfl B2 N1 (by omega)⟩
    · go_simp
      have R1 := row_laid R0 (.cells #[.int .i64 0, .int .i64 0, .int .i64 0, .int .i64 0, .int .i64 0, .int .i64 0, .int .i64 0, .int .i64 0, .int .i64 0, .int .i64 0, .int .i64 0, .int .i64 0, .int .i64 0, .int .i64 0, .int .i64 0, .int .i64 0, .int .i64 0, .int .i64 0, .int .i64 0, .int .i64 0, .int .i64 0, .int .i64 0, .int .i64 0, .int .i64 0, .int .i64 0, .int .i64 0, .int .i64 0, .int .i64 0, .int .i64 0, .int .i64 0, .int .i64 0, .int .i64 0, .int .i64 0, .int .i64 0, .int .i64 0, .int .i64 0, .int .i64 0, .int .i64 0, .int .i64 0, .int .i64 0] 27)
      have O1 := new_laid R0 #[.int .i64 0, .int .i64 0, .int .i64 0, .int .i64 0, .int .i64 0, .int .i64 0, .int .i64 0, .int .i64 0, .int .i64 0, .int .i64 0, .int .i64 0, .int .i64 0, .int .i64 0, .int .i64 0, .int .i64 0, .int .i64 0, .int .i64 0, .int .i64 0, .int .i64 0, .int .i64 0, .int .i64 0, .int .i64 0, .int .i64 0, .int .i64 0, .int .i64 0, .int .i64 0, .int .i64 0, .int .i64 0, .int .i64 0, .int .i64 0, .int .i64 0, .int .i64 0, .int .i64 0, .int .i64 0, .int .i64 0, .int .i64 0, .int .i64 0, .int .i64 0, .int .i64 0, .int .i64 0] 27
      have N1 := B0.size
      have B1 := B0.alloc B0.size (.cells #[.int .i64 0, .int .i64 0, .int .i64 0, .int .i64 0, .int .i64 0, .int .i64 0, .int .i64 0, .int .i64 0, .int .i64 0, .int .i64 0, .int .i64 0, .int .i64 0, .int .i64 0, .int .i64 0, .int .i64 0, .int .i64 0, .int .i64 0, .int .i64 0, .int .i64 0, .int .i64 0, .int .i64 0, .int .i64 0, .int .i64 0, .int .i64 0, .int .i64 0, .int .i64 0, .int .i64 0, .int .i64 0, .int .i64 0, .int .i64 0, .int .i64 0, .int .i64 0, .int .i64 0, .int .i64 0, .int .i64 0, .int .i64 0, .int .i64 0, .int .i64 0, .int .i64 0, .int .i64 0] 27)
      (refine hK _ _ ?_; clear hK K)
      refine wpAny_ready (rs := [1, 2]) (by kernel_rfl) (by simp) ?_
      refine AllReady.cons rfl (fun K hK => ?_) (AllReady.cons rfl (fun K hK => ?_) (AllReady.nil))
      · refine op_load_run (by rfl) _ rfl rfl (load_arr R1) (hK _ _ ?_)
        clear hK K
        refine wpAny_ready (rs := [2]) (by kernel_rfl) (by simp) ?_
        refine AllReady.cons rfl (fun K hK => ?_) (AllReady.nil)
        refine op_load_run (by rfl) _ rfl rfl (load_flR R1) (hK _ _ ?_)
        clear hK K
        refine wpAny_ready (rs := [3]) (by kernel_rfl) (by simp) ?_
        refine AllReady.cons rfl (fun K hK => ?_) (AllReady.nil)
        go_simp
        refine (ch _).mono ?_
        rintro e v2 ⟨rfl, hb2⟩
        have R2 := fl_kept R1 hb2
        have B2 := B1.trans (hb2.mono B1.size)
        have O2 := (hb2.block _ (Array.getElem?_eq_some_iff.1 O1).1).trans O1
        (refine hK _ _ ?_; clear hK K)
        refine wpAny_take (i := 4) (v := .int .i64 ((f.l.length : Int) + 1)) rfl (by kernel_rfl) (by kernel_rfl) (by kernel_rfl) (fun _ _ _ h => h) (Or.inl ⟨by rfl, fun w => by go_simp⟩) ?_
        refine wpAny_take (i := 5) (v := .int .i64 (m : Int)) rfl (by kernel_rfl) (by kernel_rfl) (by kernel_rfl) (fun _ _ _ h => h) (Or.inl ⟨by rfl, fun w => by go_simp⟩) ?_
        refine wpAny_ready (rs := [7]) (by kernel_rfl) (by simp) ?_
        refine AllReady.cons rfl (fun K hK => ?_) (AllReady.nil)
        refine op_store_run (by rfl) _ _ rfl rfl rfl (store_arr f.l O2 (by decide)) (hK _ _ ?_)
        clear hK K
        refine wpAny_ready (rs := [8]) (by kernel_rfl) (by simp) ?_
        refine AllReady.cons rfl (fun K hK => ?_) (AllReady.nil)
        go_simp
        (refine hK _ _ ?_; clear hK K)
        refine wpAny_done (by kernel_rfl) ?_ _
        go_wp2_with fail
        go_meet
        exact ⟨_, rfl, rfl, put_leaf f.l R2 O2 rfl B2 N1 (by omega)⟩
      · refine op_load_run (by rfl) _ rfl rfl (load_flR R1) (hK _ _ ?_)
        clear hK K
        refine wpAny_ready (rs := [1, 3]) (by kernel_rfl) (by simp) ?_
        refine AllReady.cons rfl (fun K hK => ?_) (AllReady.cons rfl (fun K hK => ?_) (AllReady.nil))
        · refine op_load_run (by rfl) _ rfl rfl (load_arr R1) (hK _ _ ?_)
          clear hK K
          refine wpAny_ready (rs := [3]) (by kernel_rfl) (by simp) ?_
          refine AllReady.cons rfl (fun K hK => ?_) (AllReady.nil)
          go_simp
          refine (ch _).mono ?_
          rintro e v2 ⟨rfl, hb2⟩
          have R2 := fl_kept R1 hb2
          have B2 := B1.trans (hb2.mono B1.size)
          have O2 := (hb2.block _ (Array.getElem?_eq_some_iff.1 O1).1).trans O1
          (refine hK _ _ ?_; clear hK K)
          refine wpAny_take (i := 4) (v := .int .i64 ((f.l.length : Int) + 1)) rfl (by kernel_rfl) (by kernel_rfl) (by kernel_rfl) (fun _ _ _ h => h) (Or.inl ⟨by rfl, fun w => by go_simp⟩) ?_
          refine wpAny_take (i := 5) (v := .int .i64 (m : Int)) rfl (by kernel_rfl) (by kernel_rfl) (by kernel_rfl) (fun _ _ _ h => h) (Or.inl ⟨by rfl, fun w => by go_simp⟩) ?_
          refine wpAny_ready (rs := [7]) (by kernel_rfl) (by simp) ?_
          refine AllReady.cons rfl (fun K hK => ?_) (AllReady.nil)
          refine op_store_run (by rfl) _ _ rfl rfl rfl (store_arr f.l O2 (by decide)) (hK _ _ ?_)
          clear hK K
          refine wpAny_ready (rs := [8]) (by kernel_rfl) (by simp) ?_
          refine AllReady.cons rfl (fun K hK => ?_) (AllReady.nil)
          go_simp
          (refine hK _ _ ?_; clear hK K)
          refine wpAny_done (by kernel_rfl) ?_ _
          go_wp2_with fail
          go_meet
          exact ⟨_, rfl, rfl, put_leaf f.l R2 O2 rfl B2 N1 (by omega)⟩
        · go_simp
          refine (ch _).mono ?_
          rintro e v2 ⟨rfl, hb2⟩
          have R2 := fl_kept R1 hb2
          have B2 := B1.trans (hb2.mono B1.size)
          have O2 := (hb2.block _ (Array.getElem?_eq_some_iff.1 O1).1).trans O1
          (refine hK _ _ ?_; clear hK K)
          refine wpAny_take (i := 4) (v := .int .i64 ((f.l.length : Int) + 1)) rfl (by kernel_rfl) (by kernel_rfl) (by kernel_rfl) (fun _ _ _ h => h) (Or.inl ⟨by rfl, fun w => by go_simp⟩) ?_
          refine wpAny_take (i := 5) (v := .int .i64 (m : Int)) rfl (by kernel_rfl) (by kernel_rfl) (by kernel_rfl) (fun _ _ _ h => h) (Or.inl ⟨by rfl, fun w => by go_simp⟩) ?_
          refine wpAny_ready (rs := [1]) (by kernel_rfl) (by simp) ?_
          refine AllReady.cons rfl (fun K hK => ?_) (AllReady.nil)
          refine op_load_run (by rfl) _ rfl rfl (load_arr R2) (hK _ _ ?_)
          clear hK K
          refine wpAny_ready (rs := [7]) (by kernel_rfl) (by simp) ?_
          refine AllReady.cons rfl (fun K hK => ?_) (AllReady.nil)
          refine op_store_run (by rfl) _ _ rfl rfl rfl (store_arr f.l O2 (by decide)) (hK _ _ ?_)
          clear hK K
          refine wpAny_ready (rs := [8]) (by kernel_rfl) (by simp) ?_
          refine AllReady.cons rfl (fun K hK => ?_) (AllReady.nil)
          go_simp
          (refine hK _ _ ?_; clear hK K)
          refine wpAny_done (by kernel_rfl) ?_ _
          go_wp2_with fail
          go_meet
          exact ⟨_, rfl, rfl, put_leaf f.l R2 O2 rfl B2 N1 (by omega)⟩
  case rest =>
    obtain ⟨bo, rfl, rfl, N, hbo, hR, hBd⟩ := hcut
    obtain ⟨g1, g2, g3, hB⟩ := G.out
    have hz := HZ.out
    have k2 := (hBd.block _ (by omega)).trans g2
    have k3 := fl_kept g3 hBd
    have hB1 := hB.trans (hBd.mono hB.size)
    have hzd := hBd.size
    obtain ⟨tb, hbb⟩ := heap_rowOf (n := 46) (show (rowOf wc w.heap.size).size = 46 by rw [hR]; rfl) (by decide)
    rw [hR] at hbb
    have hst := store_arr [s] hbb (show 40 ≤ f.cells.size by rw [fl_size]; decide)
    rw [rowN_put] at hst
    obtain ⟨W1, hW1⟩ : ∃ W1, wc.setRow w.heap.size (rowN [s] f.l.length f) = W1 := ⟨_, rfl⟩
    have e1 := setRow_heap wc w.heap.size f.cells (rowN [s] f.l.length f) tb _ hbb
    have e2 := (setRow_other wc w.heap.size bo (rowN [s] f.l.length f) (by omega)).trans hbo
    have e3 := (row_same (setRow_other wc w.heap.size (w.heap.size + 1 + 1) (rowN [s] f.l.length f) (by omega))).trans k3
    have hB2 := below_rowJ (rowN [s] f.l.length f) hB1 (Nat.le_refl _)
    rw [hW1] at hst e1 e2 e3 hB2
    have hm8 : 1 ≤ m ∧ m ≤ 8 := by omega
    have i1 : (1 : Int) ≤ (m : Int) := by omega
    have i2 : (m : Int) ≤ 8 := by omega
    have al : Tryz.prog.arrayLen 27 = 8 := by kernel_rfl
    have hmn : m - 1 = min f.l.length 7 := by omega
    obtain ⟨⟨c0, c1, c2, c3, c4⟩, _⟩ := five_at14 k2
    clear g1 g2 g3 hB k2 k3 hB1 hbb hbo hR hBd R0 B0 ch mm ms hW1
    go_wp2_with (refine at_store_run rfl _ _ rfl rfl rfl hst ?_)
    clear c0 c1 c2 c3 c4 hst
    refine wp_region_below_tail 4 (by kernel_rfl) (by kernel_rfl) ?_
    simp only [List.take_succ_cons, List.take_zero, List.drop_succ_cons, List.drop_zero]
    repeat (quiet_step (fail))
    refine wpQuiet_nil ?_
    intro W2 hw
    replace hw := quiet_world12 hw
    have hz1 := hB2.size
    have hlt1 := (Array.getElem?_eq_some_iff.1 e1).1
    have y1 := (hw.block _ hlt1).trans e1
    have y2 := (hw.block _ (Array.getElem?_eq_some_iff.1 e2).1).trans e2
    have y3 := fl_kept e3 hw
    have hB3 := hB2.trans (hw.mono hB2.size)
    have hcp := run_copy_struct (P := Tryz.prog) W2 22 22 3 26 w.heap.size 5 (min f.l.length 7) 7 ⟨bo, 0, none⟩ 8 8 (min f.l.length 7) 5 (rowN [s] f.l.length f) tb ((arr f.l).toList.take (min f.l.length 7 * 5)) Tryz.underlying22 info_smp14 y1 (show min f.l.length 7 = min 8 (min f.l.length 7) by omega) (by rw [List.length_take, Array.length_toList, arr_size]; omega)
      (fun j v hv => by
        have hadd : (⟨bo, 0, none⟩ : Addr).add j = ⟨bo, j, none⟩ := by unfold Addr.add; split <;> simp_all
        rw [hadd]
        have hj : j < min f.l.length 7 * 5 := by
          have := (List.getElem?_eq_some_iff.1 hv).1
          rw [List.length_take] at this
          omega
        rw [List.getElem?_take_of_lt hj, Array.getElem?_toList] at hv
        rw [← hv]
        simp only [World.cell?, y2]
        rfl)
      (by rw [List.length_take, Array.length_toList, arr_size, rowN_size]; omega) (fun v hv => arr_mem f.l v (List.mem_of_mem_take hv))
    rw [rowN_copy s f.l.length f h8] at hcp
    obtain ⟨W3, hW3⟩ : ∃ W3, W2.setRow w.heap.size (rowN ((s :: f.l).take 8) f.l.length f) = W3 := ⟨_, rfl⟩
    have x1 := setRow_heap W2 w.heap.size _ (rowN ((s :: f.l).take 8) f.l.length f) tb _ y1
    have x3 := (row_same (setRow_other W2 w.heap.size (w.heap.size + 1 + 1) (rowN ((s :: f.l).take 8) f.l.length f) (by omega))).trans y3
    have hB4 := below_rowJ (rowN ((s :: f.l).take 8) f.l.length f) hB3 (Nat.le_refl _)
    rw [hW3] at hcp x1 x3 hB4
    have c40 : W3.cell? ⟨w.heap.size, 40, none⟩ = some (.int .i64 f.l.length) := by
      simp only [World.cell?, x1]
      rfl
    have f40 : W3.frozen? ⟨w.heap.size, 40, none⟩ = false := by simp [World.frozen?, x1]
    have z1 := block_set 40 (.int .i64 (m : Int)) x1
    rw [rowN_many, ← hm, rowN_end] at z1
    have z1' := rowOf_heap z1
    have z3 := (row_same (block_far (w := W3) (b := w.heap.size) 40 (.int .i64 ((min (f.l.length + 1) 8 : Nat) : Int)) (show w.heap.size + 1 + 1 ≠ w.heap.size by omega))).trans x3
    have hB5 := hB4.setCell (p := ⟨w.heap.size, 40, none⟩) (Nat.le_refl _) (.int .i64 ((min (f.l.length + 1) 8 : Nat) : Int))
    rw [hm] at z1' z3 hB5
    have n2 : (rowOf (W3.setCell ⟨w.heap.size, 40, none⟩ (.int .i64 (m : Int))) (w.heap.size + 1 + 1)).size = 46 := by rw [z3]; rfl
    have r2 := rowOf_set (putF f s).cells n2 (by decide)
    have hB6 := below_rowJ (putF f s).cells hB5 (show w.heap.size ≤ w.heap.size + 1 + 1 by omega)
    have hE := Lib.hid (And.intro r2 hB6)
    clear e1 e2 e3 hB2 y1 y2 y3 hB3 x1 x3 hB4 n2 r2 hB5 hB6 z1 hw hW3 hmn i1 i2 al
    refine at_copy_run rfl _ _ rfl rfl rfl hcp ?_
    go_wp2_with (first | (refine at_load_fl rfl _ rfl _ rfl _ z1' ?_) | (refine at_store_fl rfl _ _ rfl _ rfl _ rfl _ z3 ?_))
    exact bodyPost_ret (put_result hE.out.1 rfl) rfl ⟨rfl, hE.out.2⟩
end Go.Proofs.YtiadaaihlimloaaGreat.W
