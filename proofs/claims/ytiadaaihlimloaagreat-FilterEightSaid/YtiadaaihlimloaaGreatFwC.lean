import Derived.Test.YtiadaaihlimloaaGreatFrA
import Derived.Sort.Defs
import Derived.Test.YtiadaaihlimloaaGreatBgA
import Derived.Test.YtiadaaihlimloaaGreatChecked
import Derived.ChangeOld
import Derived.Handy
import Derived.WalkKit
import Derived.BigQuiet
import Derived.Test.YtiadaaihlimloaaGreatSmD
import Derived.Test.YtiadaaihlimloaaGreatCkD
import Derived.Test.YtiadaaihlimloaaGreatStX
import Derived.Test.YtiadaaihlimloaaGreatQtB
import Derived.Test.YtiadaaihlimloaaGreatSlA
import Derived.Lib.Hide
import Derived.IntWalk
import Derived.Shelf.SlSortCmp.Insertion
import Derived.Laws.MakeOwn
import Derived.OwnWalk
/- Layer 14 as numbers: places by their delays, as an insertion from the right leaves them. No program in it. -/
namespace Go.Proofs.YtiadaaihlimloaaGreat.W
open Go.RowKit
set_option linter.unusedVariables false
set_option linter.unusedSimpArgs false
section
variable {α : Type} (key : α → Int)
/-- Put in, behind all that are not greater. -/
def insK (s : α) : List α → List α
  | [] => [s]
  | x :: r => if key s < key x then s :: x :: r else x :: insK s r
def ltK (x y : α) : Bool := decide (key x < key y)
/-- The same from the right: the list is turned round. -/
def insQ (s : α) : List α → List α
  | [] => [s]
  | y :: q => if key s < key y then y :: insQ s q else s :: y :: q
def Asc (l : List α) : Prop := l.Pairwise (fun x y => key x ≤ key y)
theorem insK_snoc (s y : α) (h : key s < key y) : ∀ p, insK key s (p ++ [y]) = insK key s p ++ [y]
  | [] => by simp [insK, h]
  | x :: p => by
    rw [List.cons_append]
    unfold insK
    split
    · rfl
    · rw [insK_snoc s y h p]
      rfl
theorem insK_all (s : α) : ∀ p, (∀ x ∈ p, ¬ key s < key x) → insK key s p = p ++ [s]
  | [], _ => rfl
  | x :: p, h => by
    unfold insK
    rw [if_neg (h x List.mem_cons_self), insK_all s p (fun y hy => h y (List.mem_cons_of_mem _ hy))]
    rfl
theorem insK_mem (s x : α) : ∀ l, x ∈ insK key s l ↔ x = s ∨ x ∈ l
  | [] => by simp [insK]
  | y :: l => by
    unfold insK
    split
    · simp
    · have := insK_mem s x l
      simp only [List.mem_cons, this]
      constructor
      · rintro (h | h | h)
        · exact .inr (.inl h)
        · exact .inl h
        · exact .inr (.inr h)
      · rintro (h | h | h)
        · exact .inr (.inl h)
        · exact .inl h
        · exact .inr (.inr h)
theorem insK_length (s : α) : ∀ l, (insK key s l).length = l.length + 1
  | [] => rfl
  | y :: l => by
    unfold insK
    split
    · simp
    · simp [insK_length s l]
theorem insK_asc (s : α) : ∀ l, Asc key l → Asc key (insK key s l)
  | [], _ => by simp [insK, Asc]
  | y :: l, h => by
    have hy := (List.pairwise_cons.1 h).1
    have hl := (List.pairwise_cons.1 h).2
    unfold insK
    split
    · rename_i hlt
      refine List.pairwise_cons.2 ⟨fun x hx => ?_, h⟩
      rcases List.mem_cons.1 hx with rfl | hx
      · omega
      · have := hy x hx
        omega
    · rename_i hlt
      refine List.pairwise_cons.2 ⟨fun x hx => ?_, insK_asc s l hl⟩
      rcases (insK_mem key s x l).1 hx with rfl | hx
      · omega
      · exact hy x hx
theorem insQ_is (s : α) : ∀ q, Asc key q.reverse → (insQ key s q).reverse = insK key s q.reverse
  | [], _ => rfl
  | y :: q, h => by
    rw [List.reverse_cons] at *
    have hp : Asc key q.reverse := (List.pairwise_append.1 h).1
    have hle : ∀ x ∈ q.reverse, key x ≤ key y := fun x hx => (List.pairwise_append.1 h).2.2 x hx y List.mem_cons_self
    unfold insQ
    split
    · rename_i hlt
      rw [List.reverse_cons, insQ_is s q hp, insK_snoc key s y hlt]
    · rename_i hlt
      rw [List.reverse_cons, List.reverse_cons, insK_all key s]
      intro x hx
      rcases List.mem_append.1 hx with hx | hx
      · have := hle x hx
        omega
      · rw [List.mem_singleton.1 hx]
        exact hlt
theorem inner_list [Inhabited α] (s : α) : ∀ (q rest : List α), Go.Sort.insInner (ltK key) 0 q.length (q.reverse ++ s :: rest).toArray = ((insQ key s q).reverse ++ rest).toArray
  | [], rest => by simp [Go.Sort.insInner, insQ]
  | y :: q, rest => by
    have e1 : ((y :: q).reverse ++ s :: rest).toArray[q.length + 1]! = s := by
      simp [List.getElem?_append]
    have e0 : ((y :: q).reverse ++ s :: rest).toArray[q.length]! = y := by
      simp [List.getElem?_append]
    rw [List.length_cons, Go.Sort.insInner, e1, e0]
    unfold insQ
    by_cases h : key s < key y
    · have e2 : Go.Sort.swp ((y :: q).reverse ++ s :: rest).toArray (q.length + 1) q.length = (q.reverse ++ s :: (y :: rest)).toArray := by
        unfold Go.Sort.swp
        rw [e1, e0]
        simp [List.set_append]
      rw [if_pos (by simp [ltK, h]), e2, inner_list s q (y :: rest), if_pos h]
      simp
    · rw [if_neg (by simp [ltK, h]), if_neg h]
      simp
/-- What is put in, one behind the other. -/
def foldK (l acc : List α) : List α := l.foldl (fun acc s => insK key s acc) acc
theorem outer_list [Inhabited α] : ∀ (rest p : List α), Asc key p → Go.Sort.insOuter (ltK key) 0 (p.length + rest.length) p.length (p ++ rest).toArray = (foldK key rest p).toArray
  | [], p, h => by
    rw [Go.Sort.insOuter, if_neg (by simp)]
    simp [foldK]
  | s :: rest, p, h => by
    rw [Go.Sort.insOuter, if_pos (by simp)]
    have e := inner_list key s p.reverse rest
    rw [List.length_reverse, List.reverse_reverse, insQ_is key s p.reverse (by rw [List.reverse_reverse]; exact h), List.reverse_reverse] at e
    rw [e]
    have ih := outer_list rest (insK key s p) (insK_asc key s p h)
    rw [insK_length] at ih
    rw [List.length_cons, show p.length + (rest.length + 1) = p.length + 1 + rest.length by omega, ih]
    rfl
theorem sort_list [Inhabited α] (l : List α) : Go.Sort.insertionSort (ltK key) l.toArray 0 l.length = (foldK key l []).toArray := by
  unfold Go.Sort.insertionSort
  cases l with
  | nil =>
    rw [Go.Sort.insOuter, if_neg (by simp)]
    rfl
  | cons x l =>
    have := outer_list key l [x] (by simp [Asc])
    simp only [List.length_cons, List.length_nil, List.singleton_append] at this
    rw [List.length_cons, show l.length + 1 = 0 + 1 + l.length by omega, this]
    rfl
theorem foldK_length : ∀ (l acc : List α), (foldK key l acc).length = l.length + acc.length
  | [], acc => by simp [foldK]
  | x :: l, acc => by
    have := foldK_length l (insK key x acc)
    rw [insK_length] at this
    unfold foldK at *
    rw [List.foldl_cons, this, List.length_cons]
    omega
end
/-- A filter's places: those of its samples. -/
def plF (n : Nat) : List (Fin 8) := (List.finRange 8).take n
def delF (f : Fl) (k : Fin 8) : Int := (f.at_ k.val).del
/-- The places by their samples' delays. -/
def ordP (f : Fl) : List (Fin 8) := foldK (delF f) (plF f.l.length) []
theorem plF_length (n : Nat) (h : n ≤ 8) : (plF n).length = n := by
  unfold plF
  rw [List.length_take, List.length_finRange]
  omega
theorem plF_get (n k : Nat) (h : k < n) (hn : n ≤ 8) : (plF n)[k]? = some ⟨k, by omega⟩ := by
  unfold plF
  rw [List.getElem?_take_of_lt h]
  simp [List.getElem?_eq_getElem (show k < (List.finRange 8).length by simp; omega)]
theorem ordP_length (f : Fl) (h : f.l.length ≤ 8) : (ordP f).length = f.l.length := by
  unfold ordP
  rw [foldK_length, plF_length _ h]
  rfl
theorem map_insK (f : Fl) (s : Fin 8) : ∀ l, (insK (delF f) s l).map (fun k => f.at_ k.val) = insS (f.at_ s.val) (l.map (fun k => f.at_ k.val))
  | [] => rfl
  | x :: l => by
    unfold insK
    rw [List.map_cons]
    unfold insS
    by_cases h : delF f s < delF f x
    · rw [if_pos h, if_pos (by exact h)]
      rfl
    · rw [if_neg h, if_neg (by exact h), List.map_cons, map_insK f s l]
theorem map_foldK (f : Fl) : ∀ (l acc : List (Fin 8)), (foldK (delF f) l acc).map (fun k => f.at_ k.val) = (l.map (fun k => f.at_ k.val)).foldl (fun acc s => insS s acc) (acc.map (fun k => f.at_ k.val))
  | [], acc => rfl
  | x :: l, acc => by
    have := map_foldK f l (insK (delF f) x acc)
    unfold foldK at *
    rw [List.foldl_cons, this, map_insK, List.map_cons, List.foldl_cons]
theorem map_plF (f : Fl) (h : f.l.length ≤ 8) : (plF f.l.length).map (fun k => f.at_ k.val) = f.l := by
  apply List.ext_getElem?
  intro i
  rw [List.getElem?_map]
  by_cases hi : i < f.l.length
  · rw [plF_get _ _ hi h]
    simp only [Option.map_some]
    unfold Fl.at_
    rw [List.getD_eq_getElem?_getD, List.getElem?_eq_getElem hi]
    rfl
  · rw [List.getElem?_eq_none (by rw [plF_length _ h]; omega), List.getElem?_eq_none (by omega)]
    rfl
/-- The samples in the order of those places. -/
theorem map_ordP (f : Fl) (h : f.l.length ≤ 8) : (ordP f).map (fun k => f.at_ k.val) = ordS f.l := by
  unfold ordP ordS
  rw [map_foldK, map_plF f h]
  rfl
/-- Which of two is less, as a number. -/
def cmp3 (a b : Int) : Int := if a < b then -1 else if b < a then 1 else 0
theorem cmp3_lt (a b : Int) : decide (cmp3 a b < 0) = decide (a < b) := by
  unfold cmp3
  by_cases h : a < b
  · simp [h]
  · by_cases g : b < a <;> simp [h, g]
end Go.Proofs.YtiadaaihlimloaaGreat.W

/- Layer 14: a filter as one row. -/
namespace Go.Proofs.YtiadaaihlimloaaGreat.W
open Go.RowKit Go.Sort Go.WideShapes
set_option linter.unusedVariables false
set_option linter.unusedSimpArgs false
theorem info_fl : (Tryz.prog.info? 29).map (·.size) = some 46 := by kernel_rfl
@[go_sem] theorem fl_size (f : Fl) : f.cells.size = 46 := rfl
set_option maxRecDepth 100000 in
@[go_sem] theorem fl_one (f : Fl) : f.cells.all (·.oneCell') = true := by simp [Fl.cells, Value.oneCell']
theorem load_fl (w : World) (b : Nat) (h : (rowOf w b).size = 46) : (Instr.loadAt 29 (.pointer (some ⟨b, 0, none⟩))).run Tryz.prog w = .ok (.agg (rowOf w b)) w :=
  load_big Tryz.underlying29 rfl info_fl (by decide) w b h
theorem store_fl (w : World) (b : Nat) (C : Array Value) (h : (rowOf w b).size = 46) (hC : C.size = 46) (h1 : C.all (·.oneCell') = true) : (Instr.storeAt 29 (.pointer (some ⟨b, 0, none⟩)) (.agg C)).run Tryz.prog w = .ok () (w.setRow b C) :=
  store_big info_fl (by decide) w b C h hC h1
def Fl.zero : Fl := ⟨[], false, 0, 0, 0, 0⟩
theorem alloc_fl (w : World) : (Instr.alloc 29 true (.tuple #[])).run Tryz.prog w = .ok (.pointer (some ⟨w.heap.size, 0, none⟩)) (w.alloc (.cells Fl.zero.cells 29)) := by
  unfold Fl.zero Fl.cells
  simp [go_sem]
  rfl
section
variable {ops : Array Oper} {rest : List Oper} {o : Oper} {a : Act} {w : World} {Q : Exit → Act → World → Prop}
theorem at_alloc_fl (hgd : o.guard = none) (ho : o.op = .alloc 29) (h : wpList Tryz.prog ops Q rest (a.put o.dst (.pointer (some ⟨w.heap.size, 0, none⟩))) (w.alloc (.cells Fl.zero.cells 29))) : wpList Tryz.prog ops Q (o :: rest) a w :=
  wpList_plain hgd fun K hK => by
    unfold Oper.wp execOp
    simp only [ho, Sem.run_bind, alloc_fl, Result.andThen_ok, Sem.run_pure]
    exact hK _ _ h
theorem at_load_fl (hgd : o.guard = none) (x : Operand) (ho : o.op = .load 29 x) (b : Nat) (hx : a.eval x = .pointer (some ⟨b, 0, none⟩)) (f : Fl) (hf : rowOf w b = f.cells) (h : wpList Tryz.prog ops Q rest (a.put o.dst (.agg f.cells)) w) : wpList Tryz.prog ops Q (o :: rest) a w :=
  wpList_plain hgd fun K hK => by
    unfold Oper.wp execOp
    simp only [ho, hx, Sem.run_bind, load_fl w b (by rw [hf]; rfl), Result.andThen_ok, Sem.run_pure]
    rw [hf]
    exact hK _ _ h
theorem at_store_fl (hgd : o.guard = none) (x y : Operand) (ho : o.op = .store 29 x y) (b : Nat) (hx : a.eval x = .pointer (some ⟨b, 0, none⟩)) (g : Fl) (hy : a.eval y = .agg g.cells) (f : Fl) (hf : rowOf w b = f.cells) (h : wpList Tryz.prog ops Q rest (a.put o.dst undef) (w.setRow b g.cells)) : wpList Tryz.prog ops Q (o :: rest) a w :=
  wpList_plain hgd fun K hK => by
    unfold Oper.wp execOp
    simp only [ho, hx, hy, Sem.run_bind, store_fl w b g.cells (by rw [hf]; rfl) rfl (fl_one g), Result.andThen_ok, Sem.run_pure]
    exact hK _ _ h
end
/-- A filter's row, read in a region that draws its order. -/
theorem wpQuiet_load_fl {ops : Array Oper} {rest : List Oper} {o : Oper} {a : Act} {C : World → Prop} {Q : Act → Prop} (hw : Region.wanted o (yielded ops a.tmps) = true) (x : Operand) (ho : o.op = .load 29 x) (b : Nat) (hx : a.eval x = .pointer (some ⟨b, 0, none⟩)) (f : Fl) (hC : ∀ w, C w → rowOf w b = f.cells) (h : wpQuiet Tryz.prog ops C Q rest (a.put o.dst (.agg f.cells))) : wpQuiet Tryz.prog ops C Q (o :: rest) a := by
  refine wpQuiet_step fun K hK => ?_
  rw [if_pos hw]
  refine ⟨.agg f.cells, fun w hcw => ?_, hK _ h⟩
  unfold Oper.quietAt execOp
  simp only [ho, hx, Sem.run_bind, load_fl w b (by rw [hC w hcw]; rfl), Result.andThen_ok, Sem.run_pure]
  rw [hC w hcw]
  exact ⟨rfl, rfl⟩
theorem fl_cell (f : Fl) (k : Nat) (hk : k < 8) :
    f.cells[5 * k]? = some (.int .i64 (f.at_ k).off) ∧ f.cells[5 * k + 1]? = some (.int .i64 (f.at_ k).del) ∧ f.cells[5 * k + 2]? = some (.int .i64 (f.at_ k).disp) ∧ f.cells[5 * k + 3]? = some (.int .i64 (f.at_ k).at_) ∧ f.cells[5 * k + 4]? = some (.int .i64 (f.at_ k).total) := by
  have hc : k = 0 ∨ k = 1 ∨ k = 2 ∨ k = 3 ∨ k = 4 ∨ k = 5 ∨ k = 6 ∨ k = 7 := by omega
  rcases hc with rfl | rfl | rfl | rfl | rfl | rfl | rfl | rfl <;> exact ⟨rfl, rfl, rfl, rfl, rfl⟩
theorem fl_rest (f : Fl) : f.cells[40]? = some (.int .i64 f.l.length) ∧ f.cells[41]? = some (.bool f.had) ∧ f.cells[42]? = some (.int .i64 f.used) := ⟨rfl, rfl, rfl⟩
end Go.Proofs.YtiadaaihlimloaaGreat.W

/- Layer 14's own code, walked: how many samples there are; which of two delays is less. -/
namespace Go.Proofs.YtiadaaihlimloaaGreat.W
open Go.RowKit Go.Sort
set_option linter.unusedVariables false
set_option linter.unusedSimpArgs false
/-- A filter in a block of its own: its cells. -/
theorem fl_new (w : World) (f : Fl) : rowOf (w.alloc (.cells f.cells 29)) w.heap.size = f.cells := rowOf_new w f.cells _
theorem fl_at {w : World} {b : Nat} {f : Fl} (h : rowOf w b = f.cells) (j : Nat) : w.cell? ⟨b, j, none⟩ = f.cells[j]? := by
  rw [row_cell (n := 46) (by rw [h]; rfl) (by decide), h]
theorem fl_lt {w : World} {b : Nat} {f : Fl} (h : rowOf w b = f.cells) : b < w.heap.size := by
  obtain ⟨t, he⟩ := heap_rowOf (n := 46) (by rw [h]; rfl) (by decide)
  exact (Array.getElem?_eq_some_iff.1 he).1
theorem fl_kept {w w' : World} {b : Nat} {f : Fl} (h : rowOf w b = f.cells) (g : Below w.heap.size w w') : rowOf w' b = f.cells :=
  (rowOf_kept (n := 46) (by rw [h]; rfl) (by decide) g).trans h
theorem many_at {w : World} {b : Nat} {f : Fl} (h : rowOf w b = f.cells) : w.cell? ⟨b, 40, none⟩ = some (.int .i64 f.l.length) := by
  rw [fl_at h]
  rfl
theorem del_at {w : World} {b : Nat} {f : Fl} (h : rowOf w b = f.cells) (k : Nat) (hk : k < 8) : w.cell? ⟨b, k * 5 + 1, none⟩ = some (.int .i64 (f.at_ k).del) := by
  rw [fl_at h, show k * 5 + 1 = 5 * k + 1 by omega]
  exact (fl_cell f k hk).2.1
set_option maxRecDepth 100000 in
set_option maxHeartbeats 3200000 in
theorem fheld_any (f : Fl) (h8 : f.l.length ≤ 8) (w : World) : Calls Tryz.prog 13 #[f.val] w fun e w' => e = .returned (.int .i64 f.l.length) ∧ Below w.heap.size w w' := by
  have hr := fl_new w f
  have hm := many_at hr
  have hB := (Below.refl w.heap.size w).alloc (Nat.le_refl _) (.cells f.cells 29)
  have m1 := fun ts t => run_minS (f.l.length : Int) 8 f.l.length (by omega) ts t
  have m2 := fun ts t => run_maxS 0 (f.l.length : Int) f.l.length (by omega) ts t
  unfold Fl.val
  clear hr h8
  go_enter Tryz.func13, Tryz.ntmps13
  go_upto_region 1 with fail
  generalize w.alloc (.cells f.cells 29) = w1 at *
  go_wp2
  go_ret
  exact ⟨rfl, hB⟩
set_option maxHeartbeats 1600000 in
theorem fcmp_any (a b : Int) (w : World) : Calls Tryz.prog 78 #[.int .i64 a, .int .i64 b] w fun e w' => e = .returned (.int .i64 (cmp3 a b)) ∧ w = w' := by
  unfold cmp3
  rcases Int.lt_trichotomy a b with h | rfl | h
  · have h2 : ¬ b < a := by omega
    rw [if_pos h]
    go_enter Tryz.func78, Tryz.ntmps78
    go_wp2
    go_ret
    exact ⟨rfl, rfl⟩
  · rw [if_neg (by omega), if_neg (by omega)]
    go_enter Tryz.func78, Tryz.ntmps78
    go_wp2
    go_ret
    exact ⟨rfl, rfl⟩
  · have h2 : ¬ a < b := by omega
    rw [if_neg h2, if_pos h]
    go_enter Tryz.func78, Tryz.ntmps78
    go_wp2
    go_ret
    exact ⟨rfl, rfl⟩
set_option maxRecDepth 100000 in
set_option maxHeartbeats 3200000 in
theorem fless_any (f : Fl) (a b : Nat) (ha : a < 8) (hb : b < 8) (bf : Nat) (w : World) (hr : rowOf w bf = f.cells) :
    Calls Tryz.prog 77 #[.int .i64 a, .int .i64 b, .pointer (some ⟨bf, 0, none⟩)] w fun e w' => e = .returned (.int .i64 (cmp3 (f.at_ a).del (f.at_ b).del)) ∧ ∃ q, w' = w.drewN q := by
  have hA := del_at hr a ha
  have hB := del_at hr b hb
  have c := fcmp_any (f.at_ a).del (f.at_ b).del
  generalize (f.at_ a).del = x at *
  generalize (f.at_ b).del = y at *
  generalize cmp3 x y = z at *
  have la : (a : Int) < 8 := by omega
  have lb : (b : Int) < 8 := by omega
  have ga : (0 : Int) ≤ a := by omega
  have gb : (0 : Int) ≤ b := by omega
  clear hr
  go_enter Tryz.func77, Tryz.ntmps77
  go_upto_region 1 with fail
  go_quiet (exact quiet_eq (c _))
  go_wp2_with fail
  go_ret
  exact ⟨rfl, _, rfl⟩
end Go.Proofs.YtiadaaihlimloaaGreat.W

/- The shelf's contract of slices (a sort's), laid at this seat's numbers (written by wip/shelf-lay.sh, wip/shelf-plain.py: anew for each seat). -/
namespace Go.Proofs.YtiadaaihlimloaaGreat.W
open Go.Shelf
def insIt_ren : Go.Shelf.Ren := ⟨fun | 20 => 96 | n => n, fun | 24 => 3 | 22 => 98 | 3 => 3 | 25 => 111 | 4 => 4 | 0 => 0 | n => n, fun | n => n⟩
theorem insIt : Go.Proofs.SlLaysF.n20 Tryz.prog insIt_ren :=
  { mixed := by kernel_rfl,
    f20 := ⟨Tryz.f96.name, by decide, Tryz.func96.trans (congrArg some (by kernel_rfl))⟩,
    t0 := Tryz.underlying0,
    a0 := Tryz.isAgg0,
    z0 := Tryz.sizeOf0,
    v0 := Tryz.zeroValue0,
    t3 := Tryz.underlying3,
    a3 := Tryz.isAgg3,
    z3 := Tryz.sizeOf3,
    v3 := Tryz.zeroValue3,
    t4 := Tryz.underlying4,
    a4 := Tryz.isAgg4,
    z4 := Tryz.sizeOf4,
    v4 := Tryz.zeroValue4,
    t22 := Tryz.underlying98,
    a22 := Tryz.isAgg98,
    z22 := Tryz.sizeOf98,
    v22 := Tryz.zeroValue98,
    a24 := Tryz.isAgg3,
    z24 := Tryz.sizeOf3,
    t25 := Tryz.underlying111,
    a25 := Tryz.isAgg111,
    z25 := Tryz.sizeOf111,
    v25 := Tryz.zeroValue111 }
end Go.Proofs.YtiadaaihlimloaaGreat.W

/- Layer 14's own code, walked: places by their delays. -/
namespace Go.Proofs.YtiadaaihlimloaaGreat.W
open Go.RowKit Go.Sort
set_option linter.unusedVariables false
set_option linter.unusedSimpArgs false
/-- A place as a value. -/
def plV (k : Fin 8) : Value := .int .i64 (k.val : Int)
theorem plV_one : Go.Proofs.OneCell plV := fun _ => rfl
def cfF (f : Fl) (x y : Fin 8) : Int := cmp3 (delF f x) (delF f y)
theorem lt_cfF (f : Fl) : Go.Proofs.ltOf (cfF f) = ltK (delF f) := by
  funext x y
  unfold Go.Proofs.ltOf cfF ltK
  exact cmp3_lt _ _
theorem sort_far {w : World} {blk m k : Nat} {dk : Array (Fin 8)} {os : Array Obj} (hk : k < w.heap.size) (hne : k ≠ blk) : (sortWorld plV w blk 0 m dk os).heap[k]? = w.heap[k]? := by
  unfold sortWorld
  rw [Go.Sort.heap_grow_old _ _ (by simpa using hk)]
  have : blk ≠ k := fun e => hne e.symm
  simp [putRow, mapBlock, Sort.ahead, Array.getElem?_modify, this]
theorem row_same {w w' : World} {b : Nat} (h : w'.heap[b]? = w.heap[b]?) : rowOf w' b = rowOf w b := by
  unfold rowOf
  rw [h]
theorem goes_less (args : Array Value) (w : World) : (callFunc 77 args).run Tryz.prog w = .ok (.enter 77 args) w := by kernel_rfl
theorem less_reads (f : Fl) (g bf size : Nat) (w : World) (hr : rowOf w bf = f.cells) (hne : bf ≠ g) : Go.Proofs.CmpReads Tryz.prog 77 #[.pointer (some ⟨bf, 0, none⟩)] plV (cfF f) g 0 size w := by
  intro m os dk hs x y
  exact fless_any f x.val y.val x.isLt y.isLt bf _ ((row_same (sort_far (fl_lt hr) hne)).trans hr)
set_option maxRecDepth 100000 in
set_option maxHeartbeats 3200000 in
theorem fsort_any (f : Fl) (h8 : f.l.length ≤ 8) (g bf cap : Nat) (w : World) (hr : rowOf w bf = f.cells) (hne : bf ≠ g) (hH : Holds plV w g 0 (plF f.l.length).toArray) :
    Calls Tryz.prog 76 #[.slice (some ⟨g, 0, none⟩) f.l.length cap, .func (.func 77) #[] #[.pointer (some ⟨bf, 0, none⟩)]] w fun e w' =>
      e = .returned (.tuple #[]) ∧ ∃ q, w' = (putRow plV w g 0 (ordP f).toArray).drewN q := by
  have hs : (plF f.l.length).toArray.size = f.l.length := by simpa using plF_length _ h8
  have c := Go.Proofs.Any.insertionSortCmpFunc_one insIt plV plV_one (cfF f) 77 #[.pointer (some ⟨bf, 0, none⟩)] g 0 cap 0 f.l.length (plF f.l.length).toArray w goes_less (less_reads f g bf _ w hr hne) hH (Nat.zero_le _) (by rw [hs]; omega) (by rw [hs]; omega)
  have e := sort_list (delF f) (plF f.l.length)
  rw [plF_length _ h8] at e
  rw [lt_cfF, e, hs] at c
  change Calls Tryz.prog 96 #[.slice (some ⟨g, 0, none⟩) f.l.length cap, .int .i64 0, .int .i64 f.l.length, .func (.func 77) #[] #[.pointer (some ⟨bf, 0, none⟩)]] w (fun e w' => e = .returned (.tuple #[]) ∧ ∃ q, w' = (putRow plV w g 0 (ordP f).toArray).drewN q) at c
  have h1 : ¬ (20 : Int) ≤ (f.l.length : Int) := by omega
  have h2 : ¬ (20 : Int) < (f.l.length : Int) := by omega
  clear e hs hH hr hne h8
  generalize ordP f = o at *
  generalize f.l.length = n at *
  have cs : Calls Tryz.prog 87 #[.slice (some ⟨g, 0, none⟩) n cap, .int .i64 n, .func (.func 77) #[] #[.pointer (some ⟨bf, 0, none⟩)]] w (fun e w' => e = .returned (.tuple #[]) ∧ ∃ q, w' = (putRow plV w g 0 o.toArray).drewN q) := by
    go_enter Tryz.func87, Tryz.ntmps87
    go_wp2_with fail
    refine wp_loop_rounds 1 ?_
    rw [rounds_succ]
    go_wp2_with fail
    (with_reducible refine c.mono ?_)
    rintro e w2 ⟨rfl, h⟩
    have H := Lib.hid h
    clear h c
    go_wp2_with fail
    refine wp_loop_rounds 1 ?_
    rw [rounds_succ]
    go_wp2_with fail
    go_end0
    exact ⟨rfl, H.out⟩
  go_enter Tryz.func76, Tryz.ntmps76
  go_wp2_with fail
  (with_reducible refine cs.mono ?_)
  rintro e w2 ⟨rfl, h⟩
  have H := Lib.hid h
  clear h c cs
  go_wp2_with fail
  go_end0
  exact ⟨rfl, H.out⟩
/-- A row of places that is written: those below i have come. -/
def rowI (n i : Nat) : Array Value := ((List.range n).map fun j => Value.int .i64 (if j < i then (j : Int) else 0)).toArray
theorem rowI_size (n i : Nat) : (rowI n i).size = n := by simp [rowI]
theorem rowI_get (n i j : Nat) (h : j < n) : (rowI n i)[j]? = some (.int .i64 (if j < i then (j : Int) else 0)) := by
  simp [rowI, h]
theorem rowI_zero (n : Nat) : madeCells #[.int .i64 0] (n * 1) = rowI n 0 := by
  apply Array.ext_getElem?
  intro j
  rw [Nat.mul_one]
  by_cases h : j < n
  · rw [rowI_get n 0 j h]
    simp [madeCells, h, Nat.mod_one]
  · rw [Array.getElem?_eq_none (by rw [size_madeCells]; omega), Array.getElem?_eq_none (by rw [rowI_size]; omega)]
theorem rowI_set (n i : Nat) (h : i < n) : (rowI n i).setIfInBounds i (.int .i64 (i : Int)) = rowI n (i + 1) := by
  apply Array.ext_getElem?
  intro j
  rw [Array.getElem?_setIfInBounds]
  by_cases hj : j < n
  · rw [rowI_get n i j hj, rowI_get n (i + 1) j hj]
    by_cases e : i = j
    · subst e
      simp [rowI_size, h]
    · rw [if_neg e]
      by_cases g : j < i
      · rw [if_pos g, if_pos (by omega)]
      · rw [if_neg g, if_neg (by omega)]
  · rw [Array.getElem?_eq_none (by rw [rowI_size]; omega : (rowI n (i + 1)).size ≤ j), if_neg (by omega), Array.getElem?_eq_none (by rw [rowI_size]; omega)]
theorem rowI_holds {w : World} {g n : Nat} {t : TypeId} (h8 : n ≤ 8) (hg : w.heap[g]? = some (.cells (rowI n n) t (0, 0))) : Holds plV w g 0 (plF n).toArray := by
  intro j hj
  have hj' : j < n := by simpa [plF_length n h8] using hj
  have e : (plF n).toArray[j]! = ⟨j, by omega⟩ := by
    have := plF_get n j hj' h8
    rw [getElem!_pos _ j (by simpa [plF_length n h8] using hj')]
    obtain ⟨h1, h2⟩ := List.getElem?_eq_some_iff.1 this
    simpa using h2
  rw [e, Nat.zero_add]
  refine ⟨?_, ?_⟩
  · simp only [World.cell?, hg, Option.bind_some, rowI_get n n j hj', if_pos hj']
    rfl
  · simp [World.frozen?, hg]
theorem info_int14 : (Tryz.prog.info? 3).map (fun i => (i.zero, i.size, i.bytes)) = some (some (.int .i64 0), 1, 8) := by kernel_rfl
set_option maxRecDepth 100000 in
set_option maxHeartbeats 6400000 in
theorem forder_any (f : Fl) (h8 : f.l.length ≤ 8) (w : World) : Calls Tryz.prog 66 #[f.val] w fun e w' =>
    ∃ g, e = .returned (.slice (some ⟨g, 0, none⟩) f.l.length f.l.length) ∧ w.heap.size ≤ g ∧ g < w'.heap.size ∧ (∀ i k, (ordP f)[i]? = some k → w'.cell? ⟨g, i, none⟩ = some (plV k)) ∧ Below w.heap.size w w' := by
  obtain ⟨i0, hi, hz0, hz1, hz2⟩ := info_parts info_int14
  have hmk : ∀ W, (Instr.makeSlice 98 (.int .i64 (f.l.length : Int)) (.int .i64 (f.l.length : Int))).run Tryz.prog W = .ok (.slice (some ⟨W.heap.size, 0, none⟩) f.l.length f.l.length) (W.alloc (.cells (rowI f.l.length 0) 3)) := fun W => by
    have := run_make (P := Tryz.prog) W 98 3 i0 (.int .i64 0) Tryz.underlying98 hi hz0 .i64 .i64 f.l.length f.l.length (by omega) (Int.le_refl _) (by rw [hz2]; omega) (by omega)
    rw [hz1, show ((f.l.length : Int)).toNat = f.l.length by omega, show (Value.int IntKind.i64 0).cells = #[.int .i64 0] from rfl, rowI_zero] at this
    exact this
  have hr := fl_new w f
  have hB := (Below.refl w.heap.size w).alloc (Nat.le_refl _) (.cells f.cells 29)
  have ch := fheld_any f h8
  have hsz : (w.alloc (.cells f.cells 29)).heap.size = w.heap.size + 1 := World.size_alloc _ _
  unfold Fl.val at *
  go_enter Tryz.func66, Tryz.ntmps66
  go_upto_region 1 with fail
  generalize w.alloc (.cells f.cells 29) = w1 at *
  clear hi hz0 hz1 hz2
  go_wp2_with (refine at_load_fl rfl _ rfl _ rfl _ (by assumption) ?_)
  (with_reducible refine (ch _).mono ?_)
  rintro e w2 ⟨rfl, hB2⟩
  have hr2 := fl_kept hr hB2
  have hBB := hB.trans (hB2.mono hB.size)
  have hlt := fl_lt hr2
  have hg := heap_alloc_new w2 (.cells (rowI f.l.length 0) 3)
  have hr3 := fl_kept hr2 ((Below.refl _ w2).alloc (Nat.le_refl _) (.cells (rowI f.l.length 0) 3))
  have hB3 := hBB.alloc (Nat.le_of_lt hlt) (.cells (rowI f.l.length 0) 3)
  have hz3 : (w2.alloc (.cells (rowI f.l.length 0) 3)).heap.size = w2.heap.size + 1 := World.size_alloc _ _
  clear ch hr hB hsz hB2 hr2 hBB
  go_upto_region 2 with fail
  generalize w2.alloc (.cells (rowI f.l.length 0) 3) = w3 at *
  generalize w2.heap.size = g at *
  go_wp2_with fail
  go_loopw [10] (fun v wr => ∃ i : Nat, i ≤ f.l.length ∧ v = .int .i64 i ∧ wr.heap[g]? = some (.cells (rowI f.l.length i) 3 (0, 0)) ∧ rowOf wr w.heap.size = f.cells ∧ Below w.heap.size w wr) (fun v _ => f.l.length - (intOf v).toNat)
  case atStart => exact ⟨0, Nat.zero_le _, rfl, hg, hr3, hB3⟩
  case round =>
    obtain ⟨i, hin, rfl, hgi, hri, hBi⟩ := hrel
    clear hg hr3 hB3 hz3
    have hgl := (Array.getElem?_eq_some_iff.1 hgi).1
    by_cases hi : i < f.l.length
    · have c0 : wr.cell? ⟨g, i, none⟩ = some (.int .i64 0) := by
        simp only [World.cell?, hgi, Option.bind_some, rowI_get _ i i hi, if_neg (Nat.lt_irrefl i)]
        rfl
      have f0 : wr.frozen? ⟨g, i, none⟩ = false := by simp [World.frozen?, hgi]
      have hii : (i : Int) < (f.l.length : Int) := by omega
      have h0i : (0 : Int) ≤ (i : Int) := by omega
      go_wp2
      go_roundw
      case rel =>
        refine ⟨i + 1, by omega, rfl, ?_, (row_same (block_far _ _ (by omega))).trans hri, hBi.setCell (p := ⟨g, i, none⟩) (by show w.heap.size ≤ g; omega) _⟩
        rw [← rowI_set _ i hi]
        exact block_set i _ hgi
      case measure => simp [intOf]; omega
    · obtain rfl : i = f.l.length := by omega
      have cs := fsort_any f h8 g w.heap.size f.l.length wr hri (by omega) (rowI_holds h8 hgi)
      have hh := holds_putRow plV wr g 0 (plF f.l.length).toArray (ordP f).toArray (rowI_holds h8 hgi) (by simp [plF_length _ h8, ordP_length f h8])
      have hBp : Below w.heap.size w (putRow plV wr g 0 (ordP f).toArray) := by
        refine hBi.trans ⟨rfl, rfl, rfl, by simp, fun k hk => ?_⟩
        have : g ≠ k := by omega
        simp [putRow, mapBlock, Array.getElem?_modify, this]
      have hE := Lib.hid (And.intro hh hBp)
      have hii : ¬ (f.l.length : Int) < (f.l.length : Int) := by omega
      clear hh hBp hgi hri hBi
      go_wp2_with fail
      (with_reducible refine cs.mono ?_)
      rintro e w5 ⟨rfl, q, rfl⟩
      go_wp2_with fail
      go_ret
      obtain ⟨hh, hBp⟩ := hE.out
      refine ⟨g, rfl, by omega, ?_, fun j k hk => ?_, below_drewN hBp q⟩
      · show g < (putRow plV wr g 0 (ordP f).toArray).heap.size
        simpa using hgl
      · have hj := (List.getElem?_eq_some_iff.1 hk).1
        have := (hh j (by simpa using hj)).1
        rw [Nat.zero_add, getElem!_pos _ j (by simpa using hj)] at this
        have e : (ordP f).toArray[j]'(by simpa using hj) = k := by
          obtain ⟨h1, h2⟩ := List.getElem?_eq_some_iff.1 hk
          simpa using h2
        rw [e] at this
        exact this
end Go.Proofs.YtiadaaihlimloaaGreat.W

