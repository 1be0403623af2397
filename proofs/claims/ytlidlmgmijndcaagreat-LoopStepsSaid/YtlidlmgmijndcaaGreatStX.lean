/- Layer 10's own code, walked: what is checked. -/
import Derived.Test.YtlidlmgmijndcaaGreatStO
import Derived.Laws.CopyOwn
namespace Go.Proofs.YtlidlmgmijndcaaGreat.W
open Go.RowKit Go.Sort
set_option linter.unusedVariables false
set_option linter.unusedSimpArgs false
theorem info_pm10 : (Tryz.prog.info? 25).map (·.size) = some 12 := by kernel_rfl
theorem load_pm10 {w : World} {b : Nat} {C : Array Value} {t : TypeId} (h : w.heap[b]? = some (.cells C t (0, 0))) (hn : C.size = 12) : (Instr.loadAt 25 (.pointer (some ⟨b, 0, none⟩))).run Tryz.prog w = .ok (.agg C) w := by
  have := run_loadVar_row (P := Tryz.prog) w b t 25 C (0, 0) _ h Tryz.underlying25 rfl (by rw [info_pm10, hn])
  simp only [Instr.loadAt, Instr.sureAddr, Sem.run_bind, Sem.run_pure, Result.andThen_ok, this]
theorem store_pm10 {w : World} {b : Nat} {C D : Array Value} {t : TypeId} (h : w.heap[b]? = some (.cells D t (0, 0))) (hD : D.size = 12) (hn : C.size = 12) (h1 : C.all (·.oneCell') = true) : (Instr.storeAt 25 (.pointer (some ⟨b, 0, none⟩)) (.agg C)).run Tryz.prog w = .ok () (w.setRow b C) := by
  have := run_storeVar_row (P := Tryz.prog) w b t 25 D C h (by rw [info_pm10, hn]) (by rw [hD, hn]) h1
  simp only [Instr.storeAt, Instr.sureAddr, Sem.run_bind, Sem.run_pure, Result.andThen_ok, this]
section
variable {ops : Array Oper} {Q : Exit → Act → World → Prop} {rest : List Oper} {o : Oper} {a : Act} {w : World}
theorem at_load_pm10 (hgd : o.guard = none) (x : Operand) (ho : o.op = .load 25 x) (b : Nat) (hx : a.eval x = .pointer (some ⟨b, 0, none⟩)) {C : Array Value} {t : TypeId} (hC : w.heap[b]? = some (.cells C t (0, 0))) (hn : C.size = 12) (h : wpList Tryz.prog ops Q rest (a.put o.dst (.agg C)) w) : wpList Tryz.prog ops Q (o :: rest) a w :=
  wpList_plain hgd fun K hK => by
    unfold Oper.wp execOp
    simp only [ho, hx, Sem.run_bind, load_pm10 hC hn, Result.andThen_ok, Sem.run_pure]
    exact hK _ _ h
theorem at_store_pm10 (hgd : o.guard = none) (x y : Operand) (ho : o.op = .store 25 x y) (b : Nat) (hx : a.eval x = .pointer (some ⟨b, 0, none⟩)) {C D : Array Value} {t : TypeId} (hy : a.eval y = .agg C) (hD : w.heap[b]? = some (.cells D t (0, 0))) (hd : D.size = 12) (hn : C.size = 12) (h1 : C.all (·.oneCell') = true) (h : wpList Tryz.prog ops Q rest (a.put o.dst undef) (w.setRow b C)) : wpList Tryz.prog ops Q (o :: rest) a w :=
  wpList_plain hgd fun K hK => by
    unfold Oper.wp execOp
    simp only [ho, hx, hy, Sem.run_bind, store_pm10 hD hd hn h1, Result.andThen_ok, Sem.run_pure]
    exact hK _ _ h
end
theorem zero_one10 : (#[.int .i64 0, .int .i64 0, .int .i64 0, .int .i64 0, .int .i64 0, .int .i64 0, .int .i64 0, .int .i64 0, .int .i64 0, .int .i64 0, .int .i64 0, .int .i64 0] : Array Value).all (·.oneCell') = true := by simp [Value.oneCell']
theorem part_one (c : Cf) (n : Nat) : (partC c n).all (·.oneCell') = true := by unfold partC partG; simp [Value.oneCell']
theorem part_full (f : Nat → Int) : partG f 12 = #[.int .i64 (f 0), .int .i64 (f 1), .int .i64 (f 2), .int .i64 (f 3), .int .i64 (f 4), .int .i64 (f 5), .int .i64 (f 6), .int .i64 (f 7), .int .i64 (f 8), .int .i64 (f 9), .int .i64 (f 10), .int .i64 (f 11)] := rfl
set_option maxRecDepth 100000 in
set_option maxHeartbeats 12800000 in
theorem gcheck_any (c : Cf) (t : c.Typed) (w : World) : Calls Tryz.prog 16 #[c.val] w fun e w' => e = .returned (.tuple #[(chkP c).val, .int .i64 (chkN c), .int .i64 (chkE c)]) ∧ Below w.heap.size w w' := by
  have s0 : (w.alloc (.cells (cfCells c) 52)).heap.size = w.heap.size + 1 := World.size_alloc _ _
  have s1 : ((w.alloc (.cells (cfCells c) 52)).alloc (.cells #[.int .i64 0, .int .i64 0, .int .i64 0, .int .i64 0, .int .i64 0, .int .i64 0, .int .i64 0, .int .i64 0, .int .i64 0, .int .i64 0, .int .i64 0, .int .i64 0] 25)).heap.size = w.heap.size + 2 := by rw [World.size_alloc, s0]
  have s2 : (((w.alloc (.cells (cfCells c) 52)).alloc (.cells #[.int .i64 0, .int .i64 0, .int .i64 0, .int .i64 0, .int .i64 0, .int .i64 0, .int .i64 0, .int .i64 0, .int .i64 0, .int .i64 0, .int .i64 0, .int .i64 0] 25)).alloc (.cells #[.int .i64 0, .int .i64 0, .int .i64 0, .int .i64 0, .int .i64 0, .int .i64 0, .int .i64 0, .int .i64 0, .int .i64 0, .int .i64 0, .int .i64 0, .int .i64 0] 25)).heap.size = w.heap.size + 3 := by rw [World.size_alloc, s1]
  have hA : Below w.heap.size w (((w.alloc (.cells (cfCells c) 52)).alloc (.cells #[.int .i64 0, .int .i64 0, .int .i64 0, .int .i64 0, .int .i64 0, .int .i64 0, .int .i64 0, .int .i64 0, .int .i64 0, .int .i64 0, .int .i64 0, .int .i64 0] 25)).alloc (.cells #[.int .i64 0, .int .i64 0, .int .i64 0, .int .i64 0, .int .i64 0, .int .i64 0, .int .i64 0, .int .i64 0, .int .i64 0, .int .i64 0, .int .i64 0, .int .i64 0] 25)) := (((Below.refl _ _).alloc (Nat.le_refl _) _).alloc (by omega) _).alloc (by omega) _
  have hx := old_alloc (.cells #[.int .i64 0, .int .i64 0, .int .i64 0, .int .i64 0, .int .i64 0, .int .i64 0, .int .i64 0, .int .i64 0, .int .i64 0, .int .i64 0, .int .i64 0, .int .i64 0] 25) (old_alloc (.cells #[.int .i64 0, .int .i64 0, .int .i64 0, .int .i64 0, .int .i64 0, .int .i64 0, .int .i64 0, .int .i64 0, .int .i64 0, .int .i64 0, .int .i64 0, .int .i64 0] 25) (heap_alloc_new w (.cells (cfCells c) 52)))
  have hr := old_alloc (.cells #[.int .i64 0, .int .i64 0, .int .i64 0, .int .i64 0, .int .i64 0, .int .i64 0, .int .i64 0, .int .i64 0, .int .i64 0, .int .i64 0, .int .i64 0, .int .i64 0] 25) (heap_alloc_new (w.alloc (.cells (cfCells c) 52)) (.cells #[.int .i64 0, .int .i64 0, .int .i64 0, .int .i64 0, .int .i64 0, .int .i64 0, .int .i64 0, .int .i64 0, .int .i64 0, .int .i64 0, .int .i64 0, .int .i64 0] 25))
  have hp := heap_alloc_new ((w.alloc (.cells (cfCells c) 52)).alloc (.cells #[.int .i64 0, .int .i64 0, .int .i64 0, .int .i64 0, .int .i64 0, .int .i64 0, .int .i64 0, .int .i64 0, .int .i64 0, .int .i64 0, .int .i64 0, .int .i64 0] 25)) (.cells #[.int .i64 0, .int .i64 0, .int .i64 0, .int .i64 0, .int .i64 0, .int .i64 0, .int .i64 0, .int .i64 0, .int .i64 0, .int .i64 0, .int .i64 0, .int .i64 0] 25)
  rw [s0] at hr
  rw [s1] at hp
  clear s0 s1
  have T := Lib.hid t
  clear t
  unfold Cf.val at *
  have hcc : (.cells (cfCells c) 52 : Obj) = .cells #[.float .f64 c.step, .float .f64 c.watch, .float .f64 c.panic, .float .f64 c.maxrate, .float .f64 c.phi, .float .f64 c.maxdist, .float .f64 c.gate, .int .i64 c.minpoll, .int .i64 c.maxpoll, .int .i64 c.burst, .int .i64 c.minsane, .int .i64 c.minleft] 52 := rfl
  rw [hcc] at hA hx hr hp s2
  go_enter Tryz.func16, Tryz.ntmps16
  go_wp2_with fail
  generalize ((w.alloc (.cells #[.float .f64 c.step, .float .f64 c.watch, .float .f64 c.panic, .float .f64 c.maxrate, .float .f64 c.phi, .float .f64 c.maxdist, .float .f64 c.gate, .int .i64 c.minpoll, .int .i64 c.maxpoll, .int .i64 c.burst, .int .i64 c.minsane, .int .i64 c.minleft] 52)).alloc (.cells #[.int .i64 0, .int .i64 0, .int .i64 0, .int .i64 0, .int .i64 0, .int .i64 0, .int .i64 0, .int .i64 0, .int .i64 0, .int .i64 0, .int .i64 0, .int .i64 0] 25)).alloc (.cells #[.int .i64 0, .int .i64 0, .int .i64 0, .int .i64 0, .int .i64 0, .int .i64 0, .int .i64 0, .int .i64 0, .int .i64 0, .int .i64 0, .int .i64 0, .int .i64 0] 25) = u at *
  (with_reducible refine (gfields_any _).mono ?_)
  rintro e w1 ⟨b, b1, b8, rfl, hB1, q1, q8, qb, hb, h1, h8⟩
  rw [s2] at q1 q8 qb
  have F1 : FldIn c w.heap.size b b1 b8 w1 := ⟨(hB1.block _ (Array.getElem?_eq_some_iff.1 hx).1).trans hx, hb, h1, h8⟩
  have hr1 := (hB1.block _ (Array.getElem?_eq_some_iff.1 hr).1).trans hr
  have hp1 := (hB1.block _ (Array.getElem?_eq_some_iff.1 hp).1).trans hp
  have hBw := hA.trans (hB1.mono hA.size)
  clear hb h1 h8 hB1 hA hx hr hp hcc s2
  have HH := Lib.hid (And.intro F1 (And.intro hp1 (And.intro hr1 hBw)))
  have QQ := Lib.hid (And.intro q1 (And.intro q8 qb))
  clear F1 hBw hr1 hp1 q1 q8 qb
  go_wp2_with fail
  go_loopw [11] (fun i wr => ∃ n : Nat, n ≤ 12 ∧ i = .int .i64 (n : Int) ∧ upTo c n = [] ∧ FldIn c w.heap.size b b1 b8 wr ∧ wr.heap[w.heap.size + 2]? = some (.cells (partC c n) 25 (0, 0)) ∧ wr.heap[w.heap.size + 1]? = some (.cells #[.int .i64 0, .int .i64 0, .int .i64 0, .int .i64 0, .int .i64 0, .int .i64 0, .int .i64 0, .int .i64 0, .int .i64 0, .int .i64 0, .int .i64 0, .int .i64 0] 25 (0, 0)) ∧ Below w.heap.size w wr) (fun i _ => 12 - (intOf i).toNat)
  case atStart => exact ⟨0, by omega, rfl, rfl, HH.out.1, HH.out.2.1, HH.out.2.2.1, HH.out.2.2.2⟩
  case round =>
    obtain ⟨n, hn, rfl, hnil, F, hp, hr, hB⟩ := hrel
    have hcf := F.cf
    unfold cfCells at hcf
    obtain ⟨a0, a1, a2, a3, a4, a5, a6, a7, a8, a9, a10, a11⟩ := twelve_atK hcf
    obtain ⟨q1, q8, qb⟩ := QQ.out
    clear hcf
    by_cases hlt : n < 12
    · have i1 : (n : Int) < 12 := by omega
      have hnx := upTo_next c n
      by_cases h7 : n < 7
      · by_cases he : fieldE c (n + 1) = 0
        · have y := gfault_rowF c T.out b1 b8 n h7 wr F.step F.min
          have yt := fun h0 => fun w2 hb => gtell_rowF c T.out b1 b8 (w.heap.size + 2) (partC c n) 25 n h7 w2 hb (part_size c n) h0
          have hc := (row_cellN (i := n) F.row).trans (rowF b1 b8 n h7)
          generalize agV b1 b8 n = ag at *
          replace yt := yt (field_ownN he)
          rw [he] at y
          rw [if_pos he, hnil] at hnx
          have HN := Lib.hid hnx
          clear hnx he hnil h7
          unfold Cf.val at y yt
          go_wp2_with fail
          (with_reducible refine y.mono ?_)
          rintro e w2 ⟨rfl, hB2⟩
          have F2 := F.below hB2
          have hp2 := (hB2.block _ (Array.getElem?_eq_some_iff.1 hp).1).trans hp
          have hr2 := (hB2.block _ (Array.getElem?_eq_some_iff.1 hr).1).trans hr
          have hb2 := hB.trans (hB2.mono hB.size)
          have y2 := yt w2 hp2
          have hcf2 := F2.cf
          unfold cfCells at hcf2
          clear a0 a1 a2 a3 a4 a5 a6 a7 a8 a9 a10 a11
          obtain ⟨a0, a1, a2, a3, a4, a5, a6, a7, a8, a9, a10, a11⟩ := twelve_atK hcf2
          have H2 := Lib.hid (And.intro F2 (And.intro hp2 (And.intro hr2 hb2)))
          clear F F2 hp hp2 hr hr2 hB hB2 hb2 y yt hcf2 hc
          go_wp2_with fail
          (with_reducible refine y2.mono ?_)
          rintro e w4 ⟨rfl, w3, rfl, hB3⟩
          obtain ⟨F2, hp2, hr2, hb2⟩ := H2.out
          have hp3 := (hB3.block _ (Array.getElem?_eq_some_iff.1 hp2).1).trans hp2
          have hp4 := block_set n (.int .i64 (setI c n)) hp3
          rw [part_next c n hlt] at hp4
          have F3 := F2.below hB3
          have F4 : FldIn c w.heap.size b b1 b8 (w3.setCell ⟨w.heap.size + 2, n, none⟩ (.int .i64 (setI c n))) := F3.kept fun k _ hk => block_far _ _ (by omega)
          have hr4 := (block_far n (.int .i64 (setI c n)) (show w.heap.size + 1 ≠ w.heap.size + 2 by omega)).trans ((hB3.block _ (Array.getElem?_eq_some_iff.1 hr2).1).trans hr2)
          have hb4 := (hb2.trans (hB3.mono hb2.size)).setCell (p := ⟨w.heap.size + 2, n, none⟩) (by simp only []; omega) (.int .i64 (setI c n))
          have H4 := Lib.hid (And.intro F4 (And.intro hp4 (And.intro hr4 hb4)))
          clear F2 hp2 hr2 hb2 hp3 hp4 F3 F4 hr4 hb4 hB3 H2 a0 a1 a2 a3 a4 a5 a6 a7 a8 a9 a10 a11 y2
          go_wp2_with fail
          go_roundw
          case rel => exact ⟨n + 1, by omega, by go_num, HN.out, H4.out.1, H4.out.2.1, H4.out.2.2.1, H4.out.2.2.2⟩
          case measure => simp [intOf]; omega
        · have y := gfault_rowF c T.out b1 b8 n h7 wr F.step F.min
          have yt := fun h0 => fun w2 hb => gtell_rowF c T.out b1 b8 (w.heap.size + 2) (partC c n) 25 n h7 w2 hb (part_size c n) h0
          have hc := (row_cellN (i := n) F.row).trans (rowF b1 b8 n h7)
          generalize agV b1 b8 n = ag at *
          have hff := first_fault hnil he 12 hlt
          clear hnx hnil h7 yt
          obtain ⟨l, hl⟩ := hff
          have hv : (.tuple #[(chkP c).val, .int .i64 (chkN c), .int .i64 (chkE c)] : Value) = .tuple #[.agg #[.int .i64 0, .int .i64 0, .int .i64 0, .int .i64 0, .int .i64 0, .int .i64 0, .int .i64 0, .int .i64 0, .int .i64 0, .int .i64 0, .int .i64 0, .int .i64 0], .int .i64 ((n : Int) + 1), .int .i64 (fieldE c (n + 1))] := by
            unfold chkP chkN chkE
            rw [hl, if_neg (by simp), if_neg (by simp)]
            simp only [List.headD_cons]
            rw [show ((n : Int) + 1).toNat = n + 1 by omega]
            rfl
          clear hl
          have HV := Lib.hid hv
          clear hv
          generalize fieldE c (n + 1) = ev at *
          have heb : (ev != 0) = true := bne_iff_ne.2 he
          unfold Cf.val at y
          go_wp2_with fail
          (with_reducible refine y.mono ?_)
          rintro e w2 ⟨rfl, hB2⟩
          have hr2 := (hB2.block _ (Array.getElem?_eq_some_iff.1 hr).1).trans hr
          have hb2 := below_setRow (hB.trans (hB2.mono hB.size)) (show w.heap.size ≤ w.heap.size + 1 by omega) #[.int .i64 0, .int .i64 0, .int .i64 0, .int .i64 0, .int .i64 0, .int .i64 0, .int .i64 0, .int .i64 0, .int .i64 0, .int .i64 0, .int .i64 0, .int .i64 0]
          have hr3 := setRow_heap w2 (w.heap.size + 1) _ #[.int .i64 0, .int .i64 0, .int .i64 0, .int .i64 0, .int .i64 0, .int .i64 0, .int .i64 0, .int .i64 0, .int .i64 0, .int .i64 0, .int .i64 0, .int .i64 0] _ _ hr2
          have H3 := Lib.hid (And.intro hr3 hb2)
          clear a0 a1 a2 a3 a4 a5 a6 a7 a8 a9 a10 a11 F hp hr hB hB2 hb2 hr3 y hc
          go_wp2_with (refine at_store_pm10 rfl _ _ rfl _ rfl rfl hr2 rfl rfl zero_one10 ?_)
          obtain ⟨q0, q1, q2, q3, q4, q5, q6, q7, q8, q9, q10, q11⟩ := twelve_atK H3.out.1
          refine bodyPost_ret (v := .tuple #[.agg #[.int .i64 0, .int .i64 0, .int .i64 0, .int .i64 0, .int .i64 0, .int .i64 0, .int .i64 0, .int .i64 0, .int .i64 0, .int .i64 0, .int .i64 0, .int .i64 0], .int .i64 ((n : Int) + 1), .int .i64 ev]) ?_ rfl ?_
          · simp [results, Tryz.results16, go_sem, q0, q1, q2, q3, q4, q5, q6, q7, q8, q9, q10, q11]
          · exact ⟨congrArg Ending.returned HV.out.symm, H3.out.2⟩
      · by_cases he : fieldE c (n + 1) = 0
        · have y := gfault_rowW c T.out b1 b8 n (by omega) hlt wr F.step F.min
          have yt := fun h0 => fun w2 hb => gtell_rowW c T.out b1 b8 (w.heap.size + 2) (partC c n) 25 n (by omega) hlt w2 hb (part_size c n) h0
          have hc := (row_cellN (i := n) F.row).trans (rowW b1 b8 n (by omega) hlt)
          generalize agV b1 b8 n = ag at *
          replace yt := yt (field_ownN he)
          rw [he] at y
          rw [if_pos he, hnil] at hnx
          have HN := Lib.hid hnx
          clear hnx he hnil h7
          unfold Cf.val at y yt
          go_wp2_with fail
          (with_reducible refine y.mono ?_)
          rintro e w2 ⟨rfl, hB2⟩
          have F2 := F.below hB2
          have hp2 := (hB2.block _ (Array.getElem?_eq_some_iff.1 hp).1).trans hp
          have hr2 := (hB2.block _ (Array.getElem?_eq_some_iff.1 hr).1).trans hr
          have hb2 := hB.trans (hB2.mono hB.size)
          have y2 := yt w2 hp2
          have hcf2 := F2.cf
          unfold cfCells at hcf2
          clear a0 a1 a2 a3 a4 a5 a6 a7 a8 a9 a10 a11
          obtain ⟨a0, a1, a2, a3, a4, a5, a6, a7, a8, a9, a10, a11⟩ := twelve_atK hcf2
          have H2 := Lib.hid (And.intro F2 (And.intro hp2 (And.intro hr2 hb2)))
          clear F F2 hp hp2 hr hr2 hB hB2 hb2 y yt hcf2 hc
          go_wp2_with fail
          (with_reducible refine y2.mono ?_)
          rintro e w4 ⟨rfl, w3, rfl, hB3⟩
          obtain ⟨F2, hp2, hr2, hb2⟩ := H2.out
          have hp3 := (hB3.block _ (Array.getElem?_eq_some_iff.1 hp2).1).trans hp2
          have hp4 := block_set n (.int .i64 (setI c n)) hp3
          rw [part_next c n hlt] at hp4
          have F3 := F2.below hB3
          have F4 : FldIn c w.heap.size b b1 b8 (w3.setCell ⟨w.heap.size + 2, n, none⟩ (.int .i64 (setI c n))) := F3.kept fun k _ hk => block_far _ _ (by omega)
          have hr4 := (block_far n (.int .i64 (setI c n)) (show w.heap.size + 1 ≠ w.heap.size + 2 by omega)).trans ((hB3.block _ (Array.getElem?_eq_some_iff.1 hr2).1).trans hr2)
          have hb4 := (hb2.trans (hB3.mono hb2.size)).setCell (p := ⟨w.heap.size + 2, n, none⟩) (by simp only []; omega) (.int .i64 (setI c n))
          have H4 := Lib.hid (And.intro F4 (And.intro hp4 (And.intro hr4 hb4)))
          clear F2 hp2 hr2 hb2 hp3 hp4 F3 F4 hr4 hb4 hB3 H2 a0 a1 a2 a3 a4 a5 a6 a7 a8 a9 a10 a11 y2
          go_wp2_with fail
          go_roundw
          case rel => exact ⟨n + 1, by omega, by go_num, HN.out, H4.out.1, H4.out.2.1, H4.out.2.2.1, H4.out.2.2.2⟩
          case measure => simp [intOf]; omega
        · have y := gfault_rowW c T.out b1 b8 n (by omega) hlt wr F.step F.min
          have yt := fun h0 => fun w2 hb => gtell_rowW c T.out b1 b8 (w.heap.size + 2) (partC c n) 25 n (by omega) hlt w2 hb (part_size c n) h0
          have hc := (row_cellN (i := n) F.row).trans (rowW b1 b8 n (by omega) hlt)
          generalize agV b1 b8 n = ag at *
          have hff := first_fault hnil he 12 hlt
          clear hnx hnil h7 yt
          obtain ⟨l, hl⟩ := hff
          have hv : (.tuple #[(chkP c).val, .int .i64 (chkN c), .int .i64 (chkE c)] : Value) = .tuple #[.agg #[.int .i64 0, .int .i64 0, .int .i64 0, .int .i64 0, .int .i64 0, .int .i64 0, .int .i64 0, .int .i64 0, .int .i64 0, .int .i64 0, .int .i64 0, .int .i64 0], .int .i64 ((n : Int) + 1), .int .i64 (fieldE c (n + 1))] := by
            unfold chkP chkN chkE
            rw [hl, if_neg (by simp), if_neg (by simp)]
            simp only [List.headD_cons]
            rw [show ((n : Int) + 1).toNat = n + 1 by omega]
            rfl
          clear hl
          have HV := Lib.hid hv
          clear hv
          generalize fieldE c (n + 1) = ev at *
          have heb : (ev != 0) = true := bne_iff_ne.2 he
          unfold Cf.val at y
          go_wp2_with fail
          (with_reducible refine y.mono ?_)
          rintro e w2 ⟨rfl, hB2⟩
          have hr2 := (hB2.block _ (Array.getElem?_eq_some_iff.1 hr).1).trans hr
          have hb2 := below_setRow (hB.trans (hB2.mono hB.size)) (show w.heap.size ≤ w.heap.size + 1 by omega) #[.int .i64 0, .int .i64 0, .int .i64 0, .int .i64 0, .int .i64 0, .int .i64 0, .int .i64 0, .int .i64 0, .int .i64 0, .int .i64 0, .int .i64 0, .int .i64 0]
          have hr3 := setRow_heap w2 (w.heap.size + 1) _ #[.int .i64 0, .int .i64 0, .int .i64 0, .int .i64 0, .int .i64 0, .int .i64 0, .int .i64 0, .int .i64 0, .int .i64 0, .int .i64 0, .int .i64 0, .int .i64 0] _ _ hr2
          have H3 := Lib.hid (And.intro hr3 hb2)
          clear a0 a1 a2 a3 a4 a5 a6 a7 a8 a9 a10 a11 F hp hr hB hB2 hb2 hr3 y hc
          go_wp2_with (refine at_store_pm10 rfl _ _ rfl _ rfl rfl hr2 rfl rfl zero_one10 ?_)
          obtain ⟨q0, q1, q2, q3, q4, q5, q6, q7, q8, q9, q10, q11⟩ := twelve_atK H3.out.1
          refine bodyPost_ret (v := .tuple #[.agg #[.int .i64 0, .int .i64 0, .int .i64 0, .int .i64 0, .int .i64 0, .int .i64 0, .int .i64 0, .int .i64 0, .int .i64 0, .int .i64 0, .int .i64 0, .int .i64 0], .int .i64 ((n : Int) + 1), .int .i64 ev]) ?_ rfl ?_
          · simp [results, Tryz.results16, go_sem, q0, q1, q2, q3, q4, q5, q6, q7, q8, q9, q10, q11]
          · exact ⟨congrArg Ending.returned HV.out.symm, H3.out.2⟩
    · obtain rfl : n = 12 := by omega
      have i1 : ¬ (((12 : Nat) : Int) < 12) := by omega
      have hv : (.tuple #[(chkP c).val, .int .i64 (chkN c), .int .i64 (chkE c)] : Value) = .tuple #[(setP c).val, .int .i64 0, .int .i64 0] := by
        unfold chkP chkN chkE
        rw [hnil, if_pos rfl, if_pos rfl]
        rfl
      have hb2 := below_setRow hB (show w.heap.size ≤ w.heap.size + 1 by omega) (partC c 12)
      have hr3 := setRow_heap wr (w.heap.size + 1) _ (partC c 12) _ _ hr
      have ec : partC c 12 = #[.int .i64 (setI c 0), .int .i64 (setI c 1), .int .i64 (setI c 2), .int .i64 (setI c 3), .int .i64 (setI c 4), .int .i64 (setI c 5), .int .i64 (setI c 6), .int .i64 (setI c 7), .int .i64 (setI c 8), .int .i64 (setI c 9), .int .i64 (setI c 10), .int .i64 (setI c 11)] := part_full (setI c)
      have ev : (setP c).val = .agg #[.int .i64 (setI c 0), .int .i64 (setI c 1), .int .i64 (setI c 2), .int .i64 (setI c 3), .int .i64 (setI c 4), .int .i64 (setI c 5), .int .i64 (setI c 6), .int .i64 (setI c 7), .int .i64 (setI c 8), .int .i64 (setI c 9), .int .i64 (setI c 10), .int .i64 (setI c 11)] := by simp only [setP, Pm.val, setI]
      have o1 := part_one c 12
      have z1 := part_size c 12
      rw [ev] at hv
      have HV := Lib.hid hv
      clear hv
      have HE := Lib.hid ec
      generalize partC c 12 = pc at *
      clear ev ec F hnil a0 a1 a2 a3 a4 a5 a6 a7 a8 a9 a10 a11
      have H3 := Lib.hid (And.intro hr3 hb2)
      clear hb2 hr3 hB
      go_wp2_with (first | (refine at_load_pm10 rfl _ rfl _ rfl hp z1 ?_) | (refine at_store_pm10 rfl _ _ rfl _ rfl rfl hr rfl z1 o1 ?_))
      have hr4 := H3.out.1
      rw [HE.out] at hr4
      obtain ⟨q0, q1, q2, q3, q4, q5, q6, q7, q8, q9, q10, q11⟩ := twelve_atK hr4
      refine bodyPost_ret (v := .tuple #[.agg #[.int .i64 (setI c 0), .int .i64 (setI c 1), .int .i64 (setI c 2), .int .i64 (setI c 3), .int .i64 (setI c 4), .int .i64 (setI c 5), .int .i64 (setI c 6), .int .i64 (setI c 7), .int .i64 (setI c 8), .int .i64 (setI c 9), .int .i64 (setI c 10), .int .i64 (setI c 11)], .int .i64 0, .int .i64 0]) ?_ rfl ?_
      · simp only [HE.out]
        simp [results, Tryz.results16, go_sem, q0, q1, q2, q3, q4, q5, q6, q7, q8, q9, q10, q11]
      · exact ⟨congrArg Ending.returned HV.out.symm, H3.out.2⟩
end Go.Proofs.YtlidlmgmijndcaaGreat.W
