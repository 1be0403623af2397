/- Layer 10's own code, walked: all fields, laid. -/
import Derived.Test.YtlidlmgmijndcaaGreatStL
import Derived.Test.YtlidlmgmijndcaaGreatStF
import Derived.Laws.CopyOwn
import Derived.Deep.DeepCutAuto
namespace Go.Proofs.YtlidlmgmijndcaaGreat.W
open Go.RowKit Go.Sort
set_option linter.unusedVariables false
set_option linter.unusedSimpArgs false
@[go_sem] theorem run_storeJ (P : Program) (w : World) (a : Addr) (k : FloatKind) (b : Nat) (m : Mode) : (store a (.float k b) m).run P w = stored P w a (.float k b) m := run_store P w a _ m rfl
@[go_sem] theorem run_store_funcJ (P : Program) (w : World) (a : Addr) (f : Fn) (x y : Array Value) (m : Mode) : (store a (.func f x y) m).run P w = stored P w a (.func f x y) m := run_store P w a _ m rfl
set_option maxRecDepth 100000 in
set_option maxHeartbeats 6400000 in
theorem gmakeF (nm : ByteArray) (lo hi : Nat) (f g : Nat) (w : World) : Calls Tryz.prog 45 #[.string nm, .float .f64 lo, .float .f64 hi, .func (.func f) #[] #[], .func (.func g) #[] #[]] w fun e w' => e = .returned (fldF nm lo hi f g 89 #[]) ∧ Below w.heap.size w w' := by
  unfold fldF
  go_enter Tryz.func45, Tryz.ntmps45
  go_wp2_with fail
  exact bodyPost_ret (v := .agg #[.string nm, .float .f64 lo, .float .f64 hi, .func (.func f) #[] #[], .func (.func g) #[] #[], .func (.func 88) #[] #[], .func (.func 89) #[] #[]]) (by simp [results, Tryz.results45, go_sem]) rfl ⟨rfl, by repeat' (first | (with_reducible exact Below.refl _ _) | (with_reducible assumption) | (with_reducible refine below_drewN ?_ _) | (with_reducible refine Below.drew ?_) | (with_reducible refine Below.setCell ?_ ?_ _) | (with_reducible refine Below.alloc ?_ ?_ _) | (simp; done) | (simp; omega) | omega)⟩
set_option maxRecDepth 100000 in
set_option maxHeartbeats 6400000 in
theorem gmakeW (nm : ByteArray) (lo hi : Int) (f g : Nat) (w : World) : Calls Tryz.prog 60 #[.string nm, .int .i64 lo, .int .i64 hi, .func (.func f) #[] #[], .func (.func g) #[] #[]] w fun e w' => e = .returned (fldW nm lo hi f g 89 #[]) ∧ Below w.heap.size w w' := by
  unfold fldW
  go_enter Tryz.func60, Tryz.ntmps60
  go_wp2_with fail
  exact bodyPost_ret (v := .agg #[.string nm, .int .i64 lo, .int .i64 hi, .func (.func f) #[] #[], .func (.func g) #[] #[], .func (.func 90) #[] #[], .func (.func 89) #[] #[]]) (by simp [results, Tryz.results60, go_sem]) rfl ⟨rfl, by repeat' (first | (with_reducible exact Below.refl _ _) | (with_reducible assumption) | (with_reducible refine below_drewN ?_ _) | (with_reducible refine Below.drew ?_) | (with_reducible refine Below.setCell ?_ ?_ _) | (with_reducible refine Below.alloc ?_ ?_ _) | (simp; done) | (simp; omega) | omega)⟩
theorem info_fldF : (Tryz.prog.info? 89).map (·.size) = some 7 := by kernel_rfl
theorem info_fldW : (Tryz.prog.info? 95).map (·.size) = some 7 := by kernel_rfl
theorem load_fldF {w : World} {b : Nat} {C : Array Value} {t : TypeId} (h : w.heap[b]? = some (.cells C t (0, 0))) (hn : C.size = 7) : (Instr.loadAt 89 (.pointer (some ⟨b, 0, none⟩))).run Tryz.prog w = .ok (.agg C) w := by
  have := run_loadVar_row (P := Tryz.prog) w b t 89 C (0, 0) _ h Tryz.underlying89 rfl (by rw [info_fldF, hn])
  simp only [Instr.loadAt, Instr.sureAddr, Sem.run_bind, Sem.run_pure, Result.andThen_ok, this]
theorem load_fldW {w : World} {b : Nat} {C : Array Value} {t : TypeId} (h : w.heap[b]? = some (.cells C t (0, 0))) (hn : C.size = 7) : (Instr.loadAt 95 (.pointer (some ⟨b, 0, none⟩))).run Tryz.prog w = .ok (.agg C) w := by
  have := run_loadVar_row (P := Tryz.prog) w b t 95 C (0, 0) _ h Tryz.underlying95 rfl (by rw [info_fldW, hn])
  simp only [Instr.loadAt, Instr.sureAddr, Sem.run_bind, Sem.run_pure, Result.andThen_ok, this]
section
variable {ops : Array Oper} {Q : Exit → Act → World → Prop} {rest : List Oper} {o : Oper} {a : Act} {w : World}
theorem at_load_fldF (hgd : o.guard = none) (x : Operand) (ho : o.op = .load 89 x) (b : Nat) (hx : a.eval x = .pointer (some ⟨b, 0, none⟩)) {C : Array Value} {t : TypeId} (hC : w.heap[b]? = some (.cells C t (0, 0))) (hn : C.size = 7) (h : wpList Tryz.prog ops Q rest (a.put o.dst (.agg C)) w) : wpList Tryz.prog ops Q (o :: rest) a w :=
  wpList_plain hgd fun K hK => by
    unfold Oper.wp execOp
    simp only [ho, hx, Sem.run_bind, load_fldF hC hn, Result.andThen_ok, Sem.run_pure]
    exact hK _ _ h
theorem at_load_fldW (hgd : o.guard = none) (x : Operand) (ho : o.op = .load 95 x) (b : Nat) (hx : a.eval x = .pointer (some ⟨b, 0, none⟩)) {C : Array Value} {t : TypeId} (hC : w.heap[b]? = some (.cells C t (0, 0))) (hn : C.size = 7) (h : wpList Tryz.prog ops Q rest (a.put o.dst (.agg C)) w) : wpList Tryz.prog ops Q (o :: rest) a w :=
  wpList_plain hgd fun K hK => by
    unfold Oper.wp execOp
    simp only [ho, hx, Sem.run_bind, load_fldW hC hn, Result.andThen_ok, Sem.run_pure]
    exact hK _ _ h
end
theorem new_alloc {w1 w2 : World} {C : Array Value} {t : TypeId} (h : Below (w1.alloc (.cells C t)).heap.size (w1.alloc (.cells C t)) w2) : w2.heap[w1.heap.size]? = some (.cells C t (0, 0)) := (h.block _ (by simp)).trans (heap_alloc_new w1 _)
theorem kept_alloc {w1 w2 : World} {o x : Obj} {b : Nat} (hx : w1.heap[b]? = some x) (h : Below (w1.alloc o).heap.size (w1.alloc o) w2) : w2.heap[b]? = some x := by
  have := (Array.getElem?_eq_some_iff.1 hx).1
  exact (h.block _ (by simp; omega)).trans (((Below.refl _ w1).alloc (Nat.le_refl _) o |>.block b this).trans hx)
theorem old_alloc {w1 : World} {x : Obj} {b : Nat} (o : Obj) (hx : w1.heap[b]? = some x) : (w1.alloc o).heap[b]? = some x := ((Below.refl _ w1).alloc (Nat.le_refl _) o |>.block b (Array.getElem?_eq_some_iff.1 hx).1).trans hx
theorem lt_alloc {w1 w2 : World} {o : Obj} (h : Below (w1.alloc o).heap.size (w1.alloc o) w2) : w1.heap.size < w2.heap.size := by
  have := h.size
  rw [World.size_alloc] at this
  omega
theorem bc_frozenK {w : World} {p : Nat} {C : Array Value} {t : TypeId} (h : w.heap[p]? = some (.cells C t (0, 0))) (j : Nat) : w.frozen? ⟨p, j, none⟩ = false := by simp [World.frozen?, h]
theorem below_alloc {w w1 w2 : World} {o : Obj} (g : Below w.heap.size w w1) (h : Below (w1.alloc o).heap.size (w1.alloc o) w2) : Below w.heap.size w w2 := by
  have ga := g.alloc g.size o
  exact ga.trans (h.mono ga.size)
/-- The fields, as they are laid: each an interface's value. -/
def rowV (b1 b8 : Nat) : List Value := [.iface 89 (fldF { data := #[115, 116, 101, 112] } 4562254508917369340 4621819117588971520 46 47 89 #[]), .iface 89 (fldF { data := #[119, 97, 116, 99, 104] } 4607182418800017408 4660134898793709568 48 49 89 #[]), .iface 89 (fldF { data := #[112, 97, 110, 105, 99] } 4607182418800017408 4681608360884174848 50 51 71 #[.pointer (some ⟨b1, 0, none⟩)]), .iface 89 (fldF { data := #[109, 97, 120, 114, 97, 116, 101] } 4517329193108106637 4591870180066957722 52 53 89 #[]), .iface 89 (fldF { data := #[112, 104, 105] } 0 4576918229304087675 54 55 89 #[]), .iface 89 (fldF { data := #[109, 97, 120, 100, 105, 115, 116] } 4576918229304087675 4625196817309499392 56 57 89 #[]), .iface 89 (fldF { data := #[103, 97, 116, 101] } 4607182418800017408 4636737291354636288 58 59 89 #[]), .iface 95 (fldW { data := #[109, 105, 110, 112, 111, 108, 108] } 4 17 61 62 89 #[]), .iface 95 (fldW { data := #[109, 97, 120, 112, 111, 108, 108] } 4 17 63 64 73 #[.pointer (some ⟨b8, 0, none⟩)]), .iface 95 (fldW { data := #[98, 117, 114, 115, 116] } 0 8 65 66 89 #[]), .iface 95 (fldW { data := #[109, 105, 110, 115, 97, 110, 101] } 1 10 67 68 89 #[]), .iface 95 (fldW { data := #[109, 105, 110, 108, 101, 102, 116] } 1 10 69 70 89 #[])]
def stepC : Array Value := #[.string { data := #[115, 116, 101, 112] }, .float .f64 4562254508917369340, .float .f64 4621819117588971520, .func (.func 46) #[] #[], .func (.func 47) #[] #[], .func (.func 88) #[] #[], .func (.func 89) #[] #[]]
def minC : Array Value := #[.string { data := #[109, 105, 110, 112, 111, 108, 108] }, .int .i64 4, .int .i64 17, .func (.func 61) #[] #[], .func (.func 62) #[] #[], .func (.func 90) #[] #[], .func (.func 89) #[] #[]]
set_option maxRecDepth 100000 in
set_option maxHeartbeats 25600000 in
theorem gfields_any (w : World) : Calls Tryz.prog 30 #[] w fun e w' => ∃ b b1 b8, e = .returned (.slice (some ⟨b, 0, none⟩) 12 12) ∧ Below w.heap.size w w' ∧ w.heap.size ≤ b1 ∧ w.heap.size ≤ b8 ∧ w.heap.size ≤ b ∧ w'.heap[b]? = some (.cells (rowV b1 b8).toArray 70 (0, 0)) ∧ w'.heap[b1]? = some (.cells stepC 89 (0, 0)) ∧ w'.heap[b8]? = some (.cells minC 95 (0, 0)) := by
  have c0 := gmakeF { data := #[115, 116, 101, 112] } 4562254508917369340 4621819117588971520 46 47
  unfold fldF at c0
  have c1 := gmakeF { data := #[119, 97, 116, 99, 104] } 4607182418800017408 4660134898793709568 48 49
  unfold fldF at c1
  have c2 := gmakeF { data := #[112, 97, 110, 105, 99] } 4607182418800017408 4681608360884174848 50 51
  unfold fldF at c2
  have c3 := gmakeF { data := #[109, 97, 120, 114, 97, 116, 101] } 4517329193108106637 4591870180066957722 52 53
  unfold fldF at c3
  have c4 := gmakeF { data := #[112, 104, 105] } 0 4576918229304087675 54 55
  unfold fldF at c4
  have c5 := gmakeF { data := #[109, 97, 120, 100, 105, 115, 116] } 4576918229304087675 4625196817309499392 56 57
  unfold fldF at c5
  have c6 := gmakeF { data := #[103, 97, 116, 101] } 4607182418800017408 4636737291354636288 58 59
  unfold fldF at c6
  have c7 := gmakeW { data := #[109, 105, 110, 112, 111, 108, 108] } 4 17 61 62
  unfold fldW at c7
  have c8 := gmakeW { data := #[109, 97, 120, 112, 111, 108, 108] } 4 17 63 64
  unfold fldW at c8
  have c9 := gmakeW { data := #[98, 117, 114, 115, 116] } 0 8 65 66
  unfold fldW at c9
  have c10 := gmakeW { data := #[109, 105, 110, 115, 97, 110, 101] } 1 10 67 68
  unfold fldW at c10
  have c11 := gmakeW { data := #[109, 105, 110, 108, 101, 102, 116] } 1 10 69 70
  unfold fldW at c11
  go_enter Tryz.func30, Tryz.ntmps30
  go_wp2_with fail
  (with_reducible refine (c0 _).mono ?_)
  rintro e v0 ⟨rfl, hB0⟩
  clear c0
  have G := hB0
  clear hB0
  go_wp2_with fail
  (with_reducible refine (c1 _).mono ?_)
  rintro e v1 ⟨rfl, hB1⟩
  clear c1
  have x0 := new_alloc hB1
  have l0 := lt_alloc hB1
  have s0 := G.size
  replace G := below_alloc G hB1
  clear hB1
  generalize v0.heap.size = b1 at *
  clear v0
  go_wp2_with fail
  (with_reducible refine (c2 _).mono ?_)
  rintro e v2 ⟨rfl, hB2⟩
  clear c2
  replace x0 := kept_alloc x0 hB2
  have x1 := new_alloc hB2
  have l1 := lt_alloc hB2
  have s1 := G.size
  replace G := below_alloc G hB2
  clear hB2
  generalize v1.heap.size = b21 at *
  clear v1
  go_wp2_with fail
  (with_reducible refine (c3 _).mono ?_)
  rintro e v3 ⟨rfl, hB3⟩
  clear c3
  replace x0 := kept_alloc x0 hB3
  replace x1 := kept_alloc x1 hB3
  have x2 := new_alloc hB3
  have l2 := lt_alloc hB3
  have s2 := G.size
  replace G := below_alloc G hB3
  clear hB3
  generalize v2.heap.size = b22 at *
  clear v2
  go_wp2_with fail
  (with_reducible refine (c4 _).mono ?_)
  rintro e v4 ⟨rfl, hB4⟩
  clear c4
  replace x0 := kept_alloc x0 hB4
  replace x1 := kept_alloc x1 hB4
  replace x2 := kept_alloc x2 hB4
  have x3 := new_alloc hB4
  have l3 := lt_alloc hB4
  have s3 := G.size
  replace G := below_alloc G hB4
  clear hB4
  generalize v3.heap.size = b23 at *
  clear v3
  go_wp2_with fail
  (with_reducible refine (c5 _).mono ?_)
  rintro e v5 ⟨rfl, hB5⟩
  clear c5
  replace x0 := kept_alloc x0 hB5
  replace x1 := kept_alloc x1 hB5
  replace x2 := kept_alloc x2 hB5
  replace x3 := kept_alloc x3 hB5
  have x4 := new_alloc hB5
  have l4 := lt_alloc hB5
  have s4 := G.size
  replace G := below_alloc G hB5
  clear hB5
  generalize v4.heap.size = b24 at *
  clear v4
  go_wp2_with fail
  (with_reducible refine (c6 _).mono ?_)
  rintro e v6 ⟨rfl, hB6⟩
  clear c6
  replace x0 := kept_alloc x0 hB6
  replace x1 := kept_alloc x1 hB6
  replace x2 := kept_alloc x2 hB6
  replace x3 := kept_alloc x3 hB6
  replace x4 := kept_alloc x4 hB6
  have x5 := new_alloc hB6
  have l5 := lt_alloc hB6
  have s5 := G.size
  replace G := below_alloc G hB6
  clear hB6
  generalize v5.heap.size = b25 at *
  clear v5
  go_wp2_with fail
  (with_reducible refine (c7 _).mono ?_)
  rintro e v7 ⟨rfl, hB7⟩
  clear c7
  replace x0 := kept_alloc x0 hB7
  replace x1 := kept_alloc x1 hB7
  replace x2 := kept_alloc x2 hB7
  replace x3 := kept_alloc x3 hB7
  replace x4 := kept_alloc x4 hB7
  replace x5 := kept_alloc x5 hB7
  have x6 := new_alloc hB7
  have l6 := lt_alloc hB7
  have s6 := G.size
  replace G := below_alloc G hB7
  clear hB7
  generalize v6.heap.size = b26 at *
  clear v6
  go_wp2_with fail
  (with_reducible refine (c8 _).mono ?_)
  rintro e v8 ⟨rfl, hB8⟩
  clear c8
  replace x0 := kept_alloc x0 hB8
  replace x1 := kept_alloc x1 hB8
  replace x2 := kept_alloc x2 hB8
  replace x3 := kept_alloc x3 hB8
  replace x4 := kept_alloc x4 hB8
  replace x5 := kept_alloc x5 hB8
  replace x6 := kept_alloc x6 hB8
  have x7 := new_alloc hB8
  have l7 := lt_alloc hB8
  have s7 := G.size
  replace G := below_alloc G hB8
  clear hB8
  generalize v7.heap.size = b8 at *
  clear v7
  go_wp2_with fail
  (with_reducible refine (c9 _).mono ?_)
  rintro e v9 ⟨rfl, hB9⟩
  clear c9
  replace x0 := kept_alloc x0 hB9
  replace x1 := kept_alloc x1 hB9
  replace x2 := kept_alloc x2 hB9
  replace x3 := kept_alloc x3 hB9
  replace x4 := kept_alloc x4 hB9
  replace x5 := kept_alloc x5 hB9
  replace x6 := kept_alloc x6 hB9
  replace x7 := kept_alloc x7 hB9
  have x8 := new_alloc hB9
  have l8 := lt_alloc hB9
  have s8 := G.size
  replace G := below_alloc G hB9
  clear hB9
  generalize v8.heap.size = b28 at *
  clear v8
  go_wp2_with fail
  (with_reducible refine (c10 _).mono ?_)
  rintro e v10 ⟨rfl, hB10⟩
  clear c10
  replace x0 := kept_alloc x0 hB10
  replace x1 := kept_alloc x1 hB10
  replace x2 := kept_alloc x2 hB10
  replace x3 := kept_alloc x3 hB10
  replace x4 := kept_alloc x4 hB10
  replace x5 := kept_alloc x5 hB10
  replace x6 := kept_alloc x6 hB10
  replace x7 := kept_alloc x7 hB10
  replace x8 := kept_alloc x8 hB10
  have x9 := new_alloc hB10
  have l9 := lt_alloc hB10
  have s9 := G.size
  replace G := below_alloc G hB10
  clear hB10
  generalize v9.heap.size = b29 at *
  clear v9
  go_wp2_with fail
  (with_reducible refine (c11 _).mono ?_)
  rintro e v11 ⟨rfl, hB11⟩
  clear c11
  replace x0 := kept_alloc x0 hB11
  replace x1 := kept_alloc x1 hB11
  replace x2 := kept_alloc x2 hB11
  replace x3 := kept_alloc x3 hB11
  replace x4 := kept_alloc x4 hB11
  replace x5 := kept_alloc x5 hB11
  replace x6 := kept_alloc x6 hB11
  replace x7 := kept_alloc x7 hB11
  replace x8 := kept_alloc x8 hB11
  replace x9 := kept_alloc x9 hB11
  have x10 := new_alloc hB11
  have l10 := lt_alloc hB11
  have s10 := G.size
  replace G := below_alloc G hB11
  clear hB11
  generalize v10.heap.size = b30 at *
  clear v10
  go_upto_region 13 with fail
  replace x0 := old_alloc (.cells #[.string { data := #[109, 105, 110, 108, 101, 102, 116] }, .int .i64 1, .int .i64 10, .func (.func 69) #[] #[], .func (.func 70) #[] #[], .func (.func 90) #[] #[], .func (.func 89) #[] #[]] 95) x0
  replace x1 := old_alloc (.cells #[.string { data := #[109, 105, 110, 108, 101, 102, 116] }, .int .i64 1, .int .i64 10, .func (.func 69) #[] #[], .func (.func 70) #[] #[], .func (.func 90) #[] #[], .func (.func 89) #[] #[]] 95) x1
  replace x2 := old_alloc (.cells #[.string { data := #[109, 105, 110, 108, 101, 102, 116] }, .int .i64 1, .int .i64 10, .func (.func 69) #[] #[], .func (.func 70) #[] #[], .func (.func 90) #[] #[], .func (.func 89) #[] #[]] 95) x2
  replace x3 := old_alloc (.cells #[.string { data := #[109, 105, 110, 108, 101, 102, 116] }, .int .i64 1, .int .i64 10, .func (.func 69) #[] #[], .func (.func 70) #[] #[], .func (.func 90) #[] #[], .func (.func 89) #[] #[]] 95) x3
  replace x4 := old_alloc (.cells #[.string { data := #[109, 105, 110, 108, 101, 102, 116] }, .int .i64 1, .int .i64 10, .func (.func 69) #[] #[], .func (.func 70) #[] #[], .func (.func 90) #[] #[], .func (.func 89) #[] #[]] 95) x4
  replace x5 := old_alloc (.cells #[.string { data := #[109, 105, 110, 108, 101, 102, 116] }, .int .i64 1, .int .i64 10, .func (.func 69) #[] #[], .func (.func 70) #[] #[], .func (.func 90) #[] #[], .func (.func 89) #[] #[]] 95) x5
  replace x6 := old_alloc (.cells #[.string { data := #[109, 105, 110, 108, 101, 102, 116] }, .int .i64 1, .int .i64 10, .func (.func 69) #[] #[], .func (.func 70) #[] #[], .func (.func 90) #[] #[], .func (.func 89) #[] #[]] 95) x6
  replace x7 := old_alloc (.cells #[.string { data := #[109, 105, 110, 108, 101, 102, 116] }, .int .i64 1, .int .i64 10, .func (.func 69) #[] #[], .func (.func 70) #[] #[], .func (.func 90) #[] #[], .func (.func 89) #[] #[]] 95) x7
  replace x8 := old_alloc (.cells #[.string { data := #[109, 105, 110, 108, 101, 102, 116] }, .int .i64 1, .int .i64 10, .func (.func 69) #[] #[], .func (.func 70) #[] #[], .func (.func 90) #[] #[], .func (.func 89) #[] #[]] 95) x8
  replace x9 := old_alloc (.cells #[.string { data := #[109, 105, 110, 108, 101, 102, 116] }, .int .i64 1, .int .i64 10, .func (.func 69) #[] #[], .func (.func 70) #[] #[], .func (.func 90) #[] #[], .func (.func 89) #[] #[]] 95) x9
  replace x10 := old_alloc (.cells #[.string { data := #[109, 105, 110, 108, 101, 102, 116] }, .int .i64 1, .int .i64 10, .func (.func 69) #[] #[], .func (.func 70) #[] #[], .func (.func 90) #[] #[], .func (.func 89) #[] #[]] 95) x10
  have x11 := heap_alloc_new v11 (.cells #[.string { data := #[109, 105, 110, 108, 101, 102, 116] }, .int .i64 1, .int .i64 10, .func (.func 69) #[] #[], .func (.func 70) #[] #[], .func (.func 90) #[] #[], .func (.func 89) #[] #[]] 95)
  have s11 := G.size
  replace G := G.alloc G.size (.cells #[.string { data := #[109, 105, 110, 108, 101, 102, 116] }, .int .i64 1, .int .i64 10, .func (.func 69) #[] #[], .func (.func 70) #[] #[], .func (.func 90) #[] #[], .func (.func 89) #[] #[]] 95)
  generalize v11.alloc (.cells #[.string { data := #[109, 105, 110, 108, 101, 102, 116] }, .int .i64 1, .int .i64 10, .func (.func 69) #[] #[], .func (.func 70) #[] #[], .func (.func 90) #[] #[], .func (.func 89) #[] #[]] 95) = u at *
  generalize v11.heap.size = b31 at *
  clear v11
  obtain ⟨_, _, _, _, _, _, p6⟩ := seven_at x2
  obtain ⟨_, _, _, _, _, _, q6⟩ := seven_at x8
  have zp := bc_frozenK x2 6
  have zq := bc_frozenK x8 6
  have ne28 : b22 ≠ b28 := by omega
  have q6' : ∀ v, (u.setCell ⟨b22, 6, none⟩ v).cell? ⟨b28, 6, none⟩ = some (.func (.func 89) #[] #[]) := fun v => by rw [World.cell?, block_far _ _ (Ne.symm ne28), x8]; rfl
  have zq' : ∀ v, (u.setCell ⟨b22, 6, none⟩ v).frozen? ⟨b28, 6, none⟩ = false := fun v => bc_frozenK (by rw [block_far _ _ (Ne.symm ne28)]; exact x8) 6
  go_upto_region 15 with fail
  clear p6 q6 zp zq q6' zq'
  have y0 : ((u.setCell ⟨b22, 6, none⟩ (.func (.func 71) #[] #[.pointer (some ⟨b1, 0, none⟩)])).setCell ⟨b28, 6, none⟩ (.func (.func 73) #[] #[.pointer (some ⟨b8, 0, none⟩)])).heap[b1]? = some (.cells #[.string { data := #[115, 116, 101, 112] }, .float .f64 4562254508917369340, .float .f64 4621819117588971520, .func (.func 46) #[] #[], .func (.func 47) #[] #[], .func (.func 88) #[] #[], .func (.func 89) #[] #[]] 89 (0, 0)) := by rw [block_far _ _ (by omega), block_far _ _ (by omega)]; exact x0
  have y1 : ((u.setCell ⟨b22, 6, none⟩ (.func (.func 71) #[] #[.pointer (some ⟨b1, 0, none⟩)])).setCell ⟨b28, 6, none⟩ (.func (.func 73) #[] #[.pointer (some ⟨b8, 0, none⟩)])).heap[b21]? = some (.cells #[.string { data := #[119, 97, 116, 99, 104] }, .float .f64 4607182418800017408, .float .f64 4660134898793709568, .func (.func 48) #[] #[], .func (.func 49) #[] #[], .func (.func 88) #[] #[], .func (.func 89) #[] #[]] 89 (0, 0)) := by rw [block_far _ _ (by omega), block_far _ _ (by omega)]; exact x1
  have y2 : ((u.setCell ⟨b22, 6, none⟩ (.func (.func 71) #[] #[.pointer (some ⟨b1, 0, none⟩)])).setCell ⟨b28, 6, none⟩ (.func (.func 73) #[] #[.pointer (some ⟨b8, 0, none⟩)])).heap[b22]? = some (.cells #[.string { data := #[112, 97, 110, 105, 99] }, .float .f64 4607182418800017408, .float .f64 4681608360884174848, .func (.func 50) #[] #[], .func (.func 51) #[] #[], .func (.func 88) #[] #[], .func (.func 71) #[] #[.pointer (some ⟨b1, 0, none⟩)]] 89 (0, 0)) := by rw [block_far _ _ ne28]; exact block_set 6 _ x2
  have y3 : ((u.setCell ⟨b22, 6, none⟩ (.func (.func 71) #[] #[.pointer (some ⟨b1, 0, none⟩)])).setCell ⟨b28, 6, none⟩ (.func (.func 73) #[] #[.pointer (some ⟨b8, 0, none⟩)])).heap[b23]? = some (.cells #[.string { data := #[109, 97, 120, 114, 97, 116, 101] }, .float .f64 4517329193108106637, .float .f64 4591870180066957722, .func (.func 52) #[] #[], .func (.func 53) #[] #[], .func (.func 88) #[] #[], .func (.func 89) #[] #[]] 89 (0, 0)) := by rw [block_far _ _ (by omega), block_far _ _ (by omega)]; exact x3
  have y4 : ((u.setCell ⟨b22, 6, none⟩ (.func (.func 71) #[] #[.pointer (some ⟨b1, 0, none⟩)])).setCell ⟨b28, 6, none⟩ (.func (.func 73) #[] #[.pointer (some ⟨b8, 0, none⟩)])).heap[b24]? = some (.cells #[.string { data := #[112, 104, 105] }, .float .f64 0, .float .f64 4576918229304087675, .func (.func 54) #[] #[], .func (.func 55) #[] #[], .func (.func 88) #[] #[], .func (.func 89) #[] #[]] 89 (0, 0)) := by rw [block_far _ _ (by omega), block_far _ _ (by omega)]; exact x4
  have y5 : ((u.setCell ⟨b22, 6, none⟩ (.func (.func 71) #[] #[.pointer (some ⟨b1, 0, none⟩)])).setCell ⟨b28, 6, none⟩ (.func (.func 73) #[] #[.pointer (some ⟨b8, 0, none⟩)])).heap[b25]? = some (.cells #[.string { data := #[109, 97, 120, 100, 105, 115, 116] }, .float .f64 4576918229304087675, .float .f64 4625196817309499392, .func (.func 56) #[] #[], .func (.func 57) #[] #[], .func (.func 88) #[] #[], .func (.func 89) #[] #[]] 89 (0, 0)) := by rw [block_far _ _ (by omega), block_far _ _ (by omega)]; exact x5
  have y6 : ((u.setCell ⟨b22, 6, none⟩ (.func (.func 71) #[] #[.pointer (some ⟨b1, 0, none⟩)])).setCell ⟨b28, 6, none⟩ (.func (.func 73) #[] #[.pointer (some ⟨b8, 0, none⟩)])).heap[b26]? = some (.cells #[.string { data := #[103, 97, 116, 101] }, .float .f64 4607182418800017408, .float .f64 4636737291354636288, .func (.func 58) #[] #[], .func (.func 59) #[] #[], .func (.func 88) #[] #[], .func (.func 89) #[] #[]] 89 (0, 0)) := by rw [block_far _ _ (by omega), block_far _ _ (by omega)]; exact x6
  have y7 : ((u.setCell ⟨b22, 6, none⟩ (.func (.func 71) #[] #[.pointer (some ⟨b1, 0, none⟩)])).setCell ⟨b28, 6, none⟩ (.func (.func 73) #[] #[.pointer (some ⟨b8, 0, none⟩)])).heap[b8]? = some (.cells #[.string { data := #[109, 105, 110, 112, 111, 108, 108] }, .int .i64 4, .int .i64 17, .func (.func 61) #[] #[], .func (.func 62) #[] #[], .func (.func 90) #[] #[], .func (.func 89) #[] #[]] 95 (0, 0)) := by rw [block_far _ _ (by omega), block_far _ _ (by omega)]; exact x7
  have y8 : ((u.setCell ⟨b22, 6, none⟩ (.func (.func 71) #[] #[.pointer (some ⟨b1, 0, none⟩)])).setCell ⟨b28, 6, none⟩ (.func (.func 73) #[] #[.pointer (some ⟨b8, 0, none⟩)])).heap[b28]? = some (.cells #[.string { data := #[109, 97, 120, 112, 111, 108, 108] }, .int .i64 4, .int .i64 17, .func (.func 63) #[] #[], .func (.func 64) #[] #[], .func (.func 90) #[] #[], .func (.func 73) #[] #[.pointer (some ⟨b8, 0, none⟩)]] 95 (0, 0)) := block_set 6 _ ((block_far _ _ (Ne.symm ne28)).trans x8)
  have y9 : ((u.setCell ⟨b22, 6, none⟩ (.func (.func 71) #[] #[.pointer (some ⟨b1, 0, none⟩)])).setCell ⟨b28, 6, none⟩ (.func (.func 73) #[] #[.pointer (some ⟨b8, 0, none⟩)])).heap[b29]? = some (.cells #[.string { data := #[98, 117, 114, 115, 116] }, .int .i64 0, .int .i64 8, .func (.func 65) #[] #[], .func (.func 66) #[] #[], .func (.func 90) #[] #[], .func (.func 89) #[] #[]] 95 (0, 0)) := by rw [block_far _ _ (by omega), block_far _ _ (by omega)]; exact x9
  have y10 : ((u.setCell ⟨b22, 6, none⟩ (.func (.func 71) #[] #[.pointer (some ⟨b1, 0, none⟩)])).setCell ⟨b28, 6, none⟩ (.func (.func 73) #[] #[.pointer (some ⟨b8, 0, none⟩)])).heap[b30]? = some (.cells #[.string { data := #[109, 105, 110, 115, 97, 110, 101] }, .int .i64 1, .int .i64 10, .func (.func 67) #[] #[], .func (.func 68) #[] #[], .func (.func 90) #[] #[], .func (.func 89) #[] #[]] 95 (0, 0)) := by rw [block_far _ _ (by omega), block_far _ _ (by omega)]; exact x10
  have y11 : ((u.setCell ⟨b22, 6, none⟩ (.func (.func 71) #[] #[.pointer (some ⟨b1, 0, none⟩)])).setCell ⟨b28, 6, none⟩ (.func (.func 73) #[] #[.pointer (some ⟨b8, 0, none⟩)])).heap[b31]? = some (.cells #[.string { data := #[109, 105, 110, 108, 101, 102, 116] }, .int .i64 1, .int .i64 10, .func (.func 69) #[] #[], .func (.func 70) #[] #[], .func (.func 90) #[] #[], .func (.func 89) #[] #[]] 95 (0, 0)) := by rw [block_far _ _ (by omega), block_far _ _ (by omega)]; exact x11
  replace G := (G.setCell (p := ⟨b22, 6, none⟩) s2 (.func (.func 71) #[] #[.pointer (some ⟨b1, 0, none⟩)])).setCell (p := ⟨b28, 6, none⟩) s8 (.func (.func 73) #[] #[.pointer (some ⟨b8, 0, none⟩)])
  clear x0 x1 x2 x3 x4 x5 x6 x7 x8 x9 x10 x11
  generalize (u.setCell ⟨b22, 6, none⟩ (.func (.func 71) #[] #[.pointer (some ⟨b1, 0, none⟩)])).setCell ⟨b28, 6, none⟩ (.func (.func 73) #[] #[.pointer (some ⟨b8, 0, none⟩)]) = u2 at *
  clear ne28 l0 l1 l2 l3 l4 l5 l6 l7 l8 l9
  have H := Lib.hid (And.intro G (And.intro y0 y7))
  clear G
  go_wp2_with (first | (refine at_load_fldF rfl _ rfl _ rfl (by assumption) rfl ?_) | (refine at_load_fldW rfl _ rfl _ rfl (by assumption) rfl ?_))
  go_ret
  exact ⟨u2.heap.size, b1, b8, rfl, H.out.1.alloc H.out.1.size _, s0, s7, H.out.1.size, heap_alloc_new u2 (.cells (rowV b1 b8).toArray 70), old_alloc _ H.out.2.1, old_alloc _ H.out.2.2⟩
end Go.Proofs.YtlidlmgmijndcaaGreat.W
