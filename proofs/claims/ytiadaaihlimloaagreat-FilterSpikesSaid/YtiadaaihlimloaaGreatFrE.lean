/- Layer 14: a filter is itself. -/
import Derived.Test.YtiadaaihlimloaaGreatFrT
import Derived.ChangeKeysEq
namespace Go.Proofs.YtiadaaihlimloaaGreat.W
open Go.RowKit Go.Sort
set_option linter.unusedVariables false
set_option linter.unusedSimpArgs false
theorem td_eq (t : Told) (w : World) : (binOp .eql 33 t.val t.val).run Tryz.prog w = .ok (.bool true) w := by
  unfold Told.val
  simp [go_sem]
theorem info_smpE : (Tryz.prog.info? 26).isSome = true := by kernel_rfl
theorem cellsOf_smp : Tryz.prog.cellsOf 26 = 5 := by kernel_rfl
set_option maxRecDepth 100000 in
set_option maxHeartbeats 3200000 in
theorem arr_eq (d : Nat) (a0 a1 a2 a3 a4 b0 b1 b2 b3 b4 c0 c1 c2 c3 c4 d0 d1 d2 d3 d4 e0 e1 e2 e3 e4 f0 f1 f2 f3 f4 g0 g1 g2 g3 g4 h0 h1 h2 h3 h4 : Int) (w : World) : (Op.equalIn (d + 3) 27 (.agg #[.int .i64 a0, .int .i64 a1, .int .i64 a2, .int .i64 a3, .int .i64 a4, .int .i64 b0, .int .i64 b1, .int .i64 b2, .int .i64 b3, .int .i64 b4, .int .i64 c0, .int .i64 c1, .int .i64 c2, .int .i64 c3, .int .i64 c4, .int .i64 d0, .int .i64 d1, .int .i64 d2, .int .i64 d3, .int .i64 d4, .int .i64 e0, .int .i64 e1, .int .i64 e2, .int .i64 e3, .int .i64 e4, .int .i64 f0, .int .i64 f1, .int .i64 f2, .int .i64 f3, .int .i64 f4, .int .i64 g0, .int .i64 g1, .int .i64 g2, .int .i64 g3, .int .i64 g4, .int .i64 h0, .int .i64 h1, .int .i64 h2, .int .i64 h3, .int .i64 h4]) (.agg #[.int .i64 a0, .int .i64 a1, .int .i64 a2, .int .i64 a3, .int .i64 a4, .int .i64 b0, .int .i64 b1, .int .i64 b2, .int .i64 b3, .int .i64 b4, .int .i64 c0, .int .i64 c1, .int .i64 c2, .int .i64 c3, .int .i64 c4, .int .i64 d0, .int .i64 d1, .int .i64 d2, .int .i64 d3, .int .i64 d4, .int .i64 e0, .int .i64 e1, .int .i64 e2, .int .i64 e3, .int .i64 e4, .int .i64 f0, .int .i64 f1, .int .i64 f2, .int .i64 f3, .int .i64 f4, .int .i64 g0, .int .i64 g1, .int .i64 g2, .int .i64 g3, .int .i64 g4, .int .i64 h0, .int .i64 h1, .int .i64 h2, .int .i64 h3, .int .i64 h4])).run Tryz.prog w = .ok true w := by
  obtain ⟨i, hi⟩ := Option.isSome_iff_exists.1 info_smpE
  rw [run_equalIn_array w (d + 2) _ _ Tryz.underlying27 hi, cellsOf_smp, show List.range 8 = [0, 1, 2, 3, 4, 5, 6, 7] from rfl]
  simp [Op.eqItems, go_sem]
set_option maxRecDepth 100000 in
set_option maxHeartbeats 3200000 in
theorem fl_eq (f : Fl) (w : World) : (binOp .eql 29 (.agg f.cells) (.agg f.cells)).run Tryz.prog w = .ok (.bool true) w := by
  unfold Fl.cells
  generalize f.at_ 0 = s0
  obtain ⟨a0, a1, a2, a3, a4⟩ := s0
  generalize f.at_ 1 = s1
  obtain ⟨b0, b1, b2, b3, b4⟩ := s1
  generalize f.at_ 2 = s2
  obtain ⟨c0, c1, c2, c3, c4⟩ := s2
  generalize f.at_ 3 = s3
  obtain ⟨d0, d1, d2, d3, d4⟩ := s3
  generalize f.at_ 4 = s4
  obtain ⟨e0, e1, e2, e3, e4⟩ := s4
  generalize f.at_ 5 = s5
  obtain ⟨f0, f1, f2, f3, f4⟩ := s5
  generalize f.at_ 6 = s6
  obtain ⟨g0, g1, g2, g3, g4⟩ := s6
  generalize f.at_ 7 = s7
  obtain ⟨h0, h1, h2, h3, h4⟩ := s7
  have h := fun w => arr_eq 9996 a0 a1 a2 a3 a4 b0 b1 b2 b3 b4 c0 c1 c2 c3 c4 d0 d1 d2 d3 d4 e0 e1 e2 e3 e4 f0 f1 f2 f3 f4 g0 g1 g2 g3 g4 h0 h1 h2 h3 h4 w
  simp [go_sem]
  simp [go_sem, h]
set_option maxRecDepth 100000 in
set_option maxHeartbeats 3200000 in
theorem fl_ne (f : Fl) (w : World) : (binOp .neq 29 (.agg f.cells) (.agg f.cells)).run Tryz.prog w = .ok (.bool false) w := by
  unfold Fl.cells
  generalize f.at_ 0 = s0
  obtain ⟨a0, a1, a2, a3, a4⟩ := s0
  generalize f.at_ 1 = s1
  obtain ⟨b0, b1, b2, b3, b4⟩ := s1
  generalize f.at_ 2 = s2
  obtain ⟨c0, c1, c2, c3, c4⟩ := s2
  generalize f.at_ 3 = s3
  obtain ⟨d0, d1, d2, d3, d4⟩ := s3
  generalize f.at_ 4 = s4
  obtain ⟨e0, e1, e2, e3, e4⟩ := s4
  generalize f.at_ 5 = s5
  obtain ⟨f0, f1, f2, f3, f4⟩ := s5
  generalize f.at_ 6 = s6
  obtain ⟨g0, g1, g2, g3, g4⟩ := s6
  generalize f.at_ 7 = s7
  obtain ⟨h0, h1, h2, h3, h4⟩ := s7
  have h := fun w => arr_eq 9996 a0 a1 a2 a3 a4 b0 b1 b2 b3 b4 c0 c1 c2 c3 c4 d0 d1 d2 d3 d4 e0 e1 e2 e3 e4 f0 f1 f2 f3 f4 g0 g1 g2 g3 g4 h0 h1 h2 h3 h4 w
  simp [go_sem]
  simp [go_sem, h]
theorem keptF {v v' : World} {k : Nat} {c : Obj} (h : v.heap[k]? = some c) (b : Below v.heap.size v v') : v'.heap[k]? = some c := (b.block _ (Array.getElem?_eq_some_iff.1 h).1).trans h
theorem laidF {v : World} {k : Nat} {c : Obj} (ob : Obj) (h : v.heap[k]? = some c) : (v.alloc ob).heap[k]? = some c := keptF h ((Below.refl _ _).alloc (Nat.le_refl _) ob)
theorem rowFar {v : World} {k b : Nat} {c : Obj} (C : Array Value) (hk : k ≠ b) (h : v.heap[k]? = some c) : (v.setRow b C).heap[k]? = some c := (setRow_other v b k C hk).trans h
theorem load_td5 (w : World) (b : Nat) (h : (rowOf w b).size = 5) : (Instr.loadAt 33 (.pointer (some ⟨b, 0, none⟩))).run Tryz.prog w = .ok (.agg (rowOf w b)) w :=
  load_big Tryz.underlying33 rfl info_td (by decide) w b h
theorem load_tdS (w : World) (b : Nat) (h : (rowOf w b).size = 5) : (ldTd (.pointer (some ⟨b, 0, none⟩))).run Tryz.prog w = .ok (.agg (rowOf w b)) w := load_td5 w b h
theorem run_maxL (n : Nat) (ts : Array TypeId) (t : TypeId) (w : World) : (Builtin.max_ ts t #[.int .i64 0, .int .i64 ((n : Int) - 8)]).run Tryz.prog w = .ok (.int .i64 ((n - 8 : Nat) : Int)) w := by
  by_cases h : n ≤ 8
  · rw [show n - 8 = 0 by omega]
    by_cases e : n = 8
    · subst e
      simp [Builtin.max_, Builtin.max2]
    · simp [Builtin.max_, Builtin.max2, show ¬ (0 : Int) < (n : Int) - 8 by omega, show ¬ (8 : Int) < (n : Int) by omega]
  · rw [show ((n - 8 : Nat) : Int) = (n : Int) - 8 by omega]
    simp [Builtin.max_, Builtin.max2, show (0 : Int) < (n : Int) - 8 by omega, show (8 : Int) < (n : Int) by omega]
theorem td_one (x0 x1 x2 x3 x4 : Int) : (#[.int .i64 x0, .int .i64 x1, .int .i64 x2, .int .i64 x3, .int .i64 x4] : Array Value).all (·.oneCell') = true := by simp [Value.oneCell']
section
variable {ops : Array Oper} {Q : Exit → Act → World → Prop} {rest : List Oper} {o : Oper} {a : Act} {w : World}
theorem at_load_td (hgd : o.guard = none) (x : Operand) (ho : o.op = .load 33 x) (b : Nat) (hx : a.eval x = .pointer (some ⟨b, 0, none⟩)) (C : Array Value) (hf : rowOf w b = C) (hC : C.size = 5) (h : wpList Tryz.prog ops Q rest (a.put o.dst (.agg C)) w) : wpList Tryz.prog ops Q (o :: rest) a w :=
  wpList_plain hgd fun K hK => by
    unfold Oper.wp execOp
    simp only [ho, hx, Sem.run_bind, load_td5 w b (by rw [hf]; exact hC), Result.andThen_ok, Sem.run_pure]
    rw [hf]
    exact hK _ _ h
theorem at_store_td (hgd : o.guard = none) (x y : Operand) (ho : o.op = .store 33 x y) (b : Nat) (hx : a.eval x = .pointer (some ⟨b, 0, none⟩)) (C : Array Value) (hy : a.eval y = .agg C) (hC : C.size = 5) (h1 : C.all (·.oneCell') = true) (hf : (rowOf w b).size = 5) (h : wpList Tryz.prog ops Q rest (a.put o.dst undef) (w.setRow b C)) : wpList Tryz.prog ops Q (o :: rest) a w :=
  wpList_plain hgd fun K hK => by
    unfold Oper.wp execOp
    simp only [ho, hx, hy, Sem.run_bind, store_td w b C hf hC h1, Result.andThen_ok, Sem.run_pure]
    exact hK _ _ h
end
end Go.Proofs.YtiadaaihlimloaaGreat.W
