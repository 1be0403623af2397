import Derived.Test.YtiadaaihlimloaaGreatFwC
import Derived.RangeFuncNested
import Derived.RangeFuncBound
import Derived.RangeFuncCalls
import Derived.RangeFuncLeaves
import Derived.RangeFuncBox
import Derived.Shelf.Abstract
import Derived.Shelf.RegionOpen
import Derived.WalkKit
import Derived.OwnWalkIn
import Derived.TacticsInMore
import Derived.LoopNIn
import Derived.LoopIn
import Derived.Maps.AppendAt
import Derived.Test.YtiadaaihlimloaaGreatFixH
import Derived.Test.YtiadaaihlimloaaGreatFixJ
import Derived.Deep.AppendLies
/- Layer 14's own code, walked: the iterator over samples in their order. -/
namespace Go.Proofs.YtiadaaihlimloaaGreat.W
open Go.RowKit Go.Shelf Go.Sort
set_option linter.unusedVariables false
set_option linter.unusedSimpArgs false
attribute [local go_sem] Oper.semAt_some
/-- A sample that comes, with its rank. -/
abbrev Itm := { x : Nat × Smp // x.1 < 8 ∧ x.2.Typed }
/-- Those have come, in their order. -/
def ItPre (f : Fl) (pre : List Itm) : Prop := ∀ (i : Nat) (x : Itm), pre[i]? = some x → x.1.1 = i ∧ (ordS f.l)[i]? = some x.1.2
def ItAll (f : Fl) (xs : List Itm) : Prop := ItPre f xs ∧ xs.length = f.l.length
theorem ItPre.nil (f : Fl) : ItPre f [] := fun i x h => by simp at h
theorem ItPre.snoc {f : Fl} {pre : List Itm} {x : Itm} (h : ItPre f pre) (h1 : x.1.1 = pre.length) (h2 : (ordS f.l)[pre.length]? = some x.1.2) : ItPre f (pre ++ [x]) := by
  intro i y hy
  by_cases hi : i < pre.length
  · rw [List.getElem?_append_left hi] at hy
    exact h i y hy
  · rw [List.getElem?_append_right (by omega)] at hy
    have hi0 : i - pre.length = 0 := by
      have := (List.getElem?_eq_some_iff.1 hy).1
      simp at this
      omega
    rw [hi0] at hy
    simp at hy
    subst hy
    obtain rfl : i = pre.length := by omega
    exact ⟨h1, h2⟩
/-- What a round keeps: blocks of cells that are none of its caller's own (Fr tells which). -/
def KpF (Fr : World → Nat → Prop) (W W' : World) : Prop := ∀ b, (∃ cs t fr, W.heap[b]? = some (.cells cs t fr)) → Fr W b → W'.heap[b]? = W.heap[b]? ∧ Fr W' b
theorem KpF.trans {Fr : World → Nat → Prop} {A B C : World} (h : KpF Fr A B) (k : KpF Fr B C) : KpF Fr A C := fun b hb hf => by
  obtain ⟨h1, h2⟩ := h b hb hf
  obtain ⟨k1, k2⟩ := k b (by rw [h1]; exact hb) h2
  exact ⟨k1.trans h1, k2⟩
section
variable {ops : Array Oper} {rest : List Oper} {o : Oper} {a : Act} {w : World} {Q : Exit → Act → World → Prop} {F : Fence} {n : Nat}
theorem gi_load_fl (hgd : o.guard = none) (x : Operand) (ho : o.op = .load 29 x) (b : Nat) (hx : a.eval x = .pointer (some ⟨b, 0, none⟩)) (f : Fl) (hf : rowOf w b = f.cells) (h : wpListIn F n Tryz.prog ops Q rest (a.put o.dst (.agg f.cells)) w) : wpListIn F n Tryz.prog ops Q (o :: rest) a w := by
  refine wpListIn_plain hgd fun K hK => ?_
  unfold Oper.wpIn
  refine ⟨?_, ?_⟩
  · simp [Oper.about, ho]
  · rw [Oper.semAt_plain F _ _ (by rw [ho]; intro c hc'; cases hc')]
    unfold execOp
    simp only [ho, hx, Sem.run_bind, load_fl w b (by rw [hf]; rfl), Result.andThen_ok, Sem.run_pure]
    rw [hf]
    exact hK _ _ h
end
theorem smp_at {w : World} {b : Nat} {f : Fl} (h : rowOf w b = f.cells) (k : Nat) (hk : k < 8) :
    w.cell? ⟨b, k * 5, none⟩ = some (.int .i64 (f.at_ k).off) ∧ w.cell? ⟨b, k * 5 + 1, none⟩ = some (.int .i64 (f.at_ k).del) ∧ w.cell? ⟨b, k * 5 + 2, none⟩ = some (.int .i64 (f.at_ k).disp) ∧ w.cell? ⟨b, k * 5 + 3, none⟩ = some (.int .i64 (f.at_ k).at_) ∧ w.cell? ⟨b, k * 5 + 4, none⟩ = some (.int .i64 (f.at_ k).total) := by
  rw [fl_at h, fl_at h, fl_at h, fl_at h, fl_at h, show k * 5 = 5 * k by omega]
  exact fl_cell f k hk
theorem at_typed {f : Fl} (t : f.Typed) (k : Nat) : (f.at_ k).Typed := by
  unfold Fl.at_
  rw [List.getD_eq_getElem?_getD]
  cases h : f.l[k]? with
  | none =>
    exact ⟨by decide, by decide, by decide, by decide, by decide⟩
  | some x =>
    exact t.l x (List.mem_of_getElem? h)
set_option maxHeartbeats 800000 in
theorem finorder_any (f : Fl) (w : World) :
    Calls Tryz.prog 27 #[f.val] w fun e w' => e = .returned (.func (.func 65) #[] #[.pointer (some ⟨w.heap.size, 0, none⟩)]) ∧ w' = w.alloc (.cells f.cells 29) := by
  unfold Fl.val
  go_enter Tryz.func27, Tryz.ntmps27
  go_wp2
  go_ret
  exact ⟨rfl, rfl⟩
set_option maxRecDepth 100000 in
set_option maxHeartbeats 6400000 in
theorem fit_in (n : Nat) (hn : 1 ≤ n) (f : Fl) (tf : f.Typed) (Bf l : Nat) (Fr : World → Nat → Prop) (J Jx : List Itm → World → Prop) (W : World) (hJ : AbidesFrom W.heap.size J)
    (hY : ∀ pre x W1, J pre W1 → pre.length < 8 → YieldAt Fence.wide (n - 1) Tryz.prog l #[.int .i64 (x.1.1 : Int), x.1.2.val] W1 fun e W' =>
      (e = .returned (.bool true) ∧ J (pre ++ [x]) W' ∧ KpF Fr W1 W') ∨ (e = .returned (.bool false) ∧ Jx (pre ++ [x]) W'))
    (hBf : rowOf W Bf = f.cells) (hF : ∀ W2, Below W.heap.size W W2 → ∀ b, b = Bf ∨ W.heap.size ≤ b → Fr W2 b) (h0 : J [] W) :
    CallsIn Fence.wide n Tryz.prog 65 #[.func (.yield l) #[] #[], .pointer (some ⟨Bf, 0, none⟩)] W fun e W' => (∃ v, e = .returned v) ∧
      ((∃ xs, ItAll f xs ∧ J xs W') ∨ (∃ pre, ItPre f pre ∧ Jx pre W')) := by
  have h8 := tf.many
  have co := forder_any f h8
  unfold Fl.val at co
  refine callsIn_of_wp Tryz.func65 rfl trivial ?_ rfl
  simp only [Tryz.ntmps65, List.size_toArray, List.length_cons, List.length_nil, Nat.reduceAdd, Nat.reduceSub, Array.replicate_succ, Array.replicate_zero, List.push_toArray, List.append_toArray, List.nil_append, List.cons_append]
  gi_wp2_with (refine gi_load_fl rfl _ rfl _ rfl _ (by assumption) ?_)
  refine ⟨trivial, (callsIn_wide.2 (co _)).mono ?_⟩
  rintro e W2 ⟨g, rfl, hg1, hg2, hrow, hB⟩
  have hJ2 := hJ _ _ W2 none h0 ⟨hB.os, hB.tape, hB.output, hB.size, fun k hk _ => hB.block k hk⟩ (fun r e => by cases e)
  have hr2 := fl_kept hBf hB
  have hf1 := hF W2 hB Bf (.inl rfl)
  have hf2 := hF W2 hB g (.inr hg1)
  have hol := ordP_length f h8
  have hmap := map_ordP f h8
  clear co hF hBf h0
  gi_wp2_with fail
  have HM := Lib.hid hmap
  have HL := Lib.hid hol
  have HY := Lib.hid hY
  clear hmap hol hY hB hJ
  gi_loopw [8] (fun v wr => ∃ (i : Nat) (pre : List Itm), i ≤ f.l.length ∧ v = .int .i64 i ∧ pre.length = i ∧ ItPre f pre ∧ J pre wr ∧ rowOf wr Bf = f.cells ∧ (∀ (i : Nat) (k : Fin 8), (ordP f)[i]? = some k → wr.cell? ⟨g, i, none⟩ = some (plV k)) ∧ Fr wr Bf ∧ Fr wr g) (fun v _ => f.l.length - (intOf v).toNat)
  case atStart => exact ⟨0, [], Nat.zero_le _, rfl, rfl, .nil f, hJ2, hr2, hrow, hf1, hf2⟩
  case round =>
    obtain ⟨i, pre, hin, rfl, hpl, hP, hJs, hr, hrw, hf1', hf2'⟩ := hrel
    clear hJ2 hr2 hrow hf1 hf2
    by_cases hi : i < f.l.length
    · obtain ⟨k, hk⟩ : ∃ k, (ordP f)[i]? = some k := ⟨_, List.getElem?_eq_getElem (by rw [HL.out]; exact hi)⟩
      have hs : (ordS f.l)[i]? = some (f.at_ k.val) := by
        rw [← HM.out, List.getElem?_map, hk]
        rfl
      have hc := hrw i k hk
      have hyy := HY.out pre ⟨(i, f.at_ k.val), by dsimp only; omega, at_typed tf k.val⟩ wr hJs (by omega)
      have hsn := hP.snoc (x := ⟨(i, f.at_ k.val), by dsimp only; omega, at_typed tf k.val⟩) hpl.symm (by rw [hpl]; exact hs)
      obtain ⟨c0, c1, c2, c3, c4⟩ := smp_at hr k.val k.isLt
      obtain ⟨cs, te, fe, hgb, _⟩ := Go.Sort.cells_of_cell? hc
      obtain ⟨tb, hbb⟩ := heap_rowOf (n := 46) (by rw [hr]; rfl) (by decide)
      have hK : ∀ W3, KpF Fr wr W3 → (rowOf W3 Bf = f.cells ∧ (∀ (i : Nat) (k : Fin 8), (ordP f)[i]? = some k → W3.cell? ⟨g, i, none⟩ = some (plV k)) ∧ Fr W3 Bf ∧ Fr W3 g) := fun W3 hkp => by
        obtain ⟨e1, e2⟩ := hkp Bf ⟨_, _, _, hbb⟩ hf1'
        obtain ⟨e3, e4⟩ := hkp g ⟨_, _, _, hgb⟩ hf2'
        exact ⟨(row_same e1).trans hr, fun j m hm => (cell_same e3 _).trans (hrw j m hm), e2, e4⟩
      have HK := Lib.hid hK
      have HS := Lib.hid hsn
      have lk := k.isLt
      have lk' : (k.val : Int) < 8 := by omega
      have gk : (0 : Int) ≤ (k.val : Int) := by omega
      have hii : (i : Int) < (f.l.length : Int) := by omega
      have gii : (0 : Int) ≤ (i : Int) := by omega
      unfold plV at hc
      clear hrw hr hgb hbb hK hsn hk hs hf1' hf2' hP
      obtain ⟨fn, tmps, assign, body, hy, hR⟩ := hyy
      dsimp only at hy
      unfold Smp.val at hy
      gi_wp2_with fail
      refine hR.mono ?_
      rintro e W3 (⟨rfl, hJ3, hkp⟩ | ⟨rfl, hJx3⟩)
      · have E := Lib.hid (And.intro hJ3 (HK.out W3 hkp))
        clear hJ3 hkp
        gi_wp2_with fail
        go_roundw
        case rel =>
          obtain ⟨hJ3, e1, e2, e3, e4⟩ := E.out
          exact ⟨i + 1, _, by omega, rfl, by simp [hpl], HS.out, hJ3, e1, e2, e3, e4⟩
        case measure => simp [intOf]; omega
      · have E := Lib.hid hJx3
        clear hJx3
        gi_wp2_with fail
        refine bodyPost_ret (results_none rfl _ _ _) rfl ?_
        exact ⟨⟨_, rfl⟩, .inr ⟨_, HS.out, E.out⟩⟩
    · obtain rfl : i = f.l.length := by omega
      have hii : ¬ (f.l.length : Int) < (f.l.length : Int) := by omega
      have E := Lib.hid (And.intro hP hJs)
      clear hP hJs hr hrw hf1' hf2'
      gi_wp2_with fail
      go_end0
      exact ⟨⟨_, rfl⟩, .inl ⟨pre, ⟨E.out.1, hpl⟩, E.out.2⟩⟩
/-- What the iterator's value does. -/
theorem it_stops (n : Nat) (hn : 1 ≤ n) (f : Fl) (tf : f.Typed) (Bf : Nat) (Fr : World → Nat → Prop) (w : World) (hBf : rowOf w Bf = f.cells) (hF : ∀ W2, Below w.heap.size w W2 → ∀ b, b = Bf ∨ w.heap.size ≤ b → Fr W2 b) :
    SeqStopsK Fence.wide n Tryz.prog 65 #[.pointer (some ⟨Bf, 0, none⟩)] (fun x : Itm => #[.int .i64 (x.1.1 : Int), x.1.2.val]) (KpF Fr) (ItAll f) (ItPre f) 8 w :=
  fun l J Jx W hW hJ _ hY h0 => fit_in n hn f tf Bf l Fr J Jx W hJ hY (fl_kept hBf hW)
    (fun W2 hB b hb => hF W2 (hW.trans (hB.mono hW.size)) b (hb.imp id (fun h => Nat.le_trans hW.size h))) h0
end Go.Proofs.YtiadaaihlimloaaGreat.W

/- Layer 14's own code, walked: the sample that counts. -/
namespace Go.Proofs.YtiadaaihlimloaaGreat.W
open Go.RowKit Go.Shelf Go.Sort
set_option linter.unusedVariables false
set_option linter.unusedSimpArgs false
attribute [local go_sem] Oper.semAt_some
theorem own_blk14 {β : Type} (B : Nat) (cs : β → Array Value) (t : TypeId) (fr : Nat × Nat) : Own (fun (s : β) W => W.heap[B]? = some (.cells (cs s) t fr)) := by
  intro s X Y row h hg hrow
  refine (hg.block B (Array.getElem?_eq_some_iff.1 h).1 (fun e' => ?_)).trans h
  obtain ⟨o, ho, hc⟩ := hrow B e'.symm
  rw [h] at ho
  cases ho
  cases hc
theorem own_lt14 {β : Type} (n : Nat) : Own (fun (_ : β) W => n ≤ W.heap.size) := fun _ _ _ _ h hg _ => Nat.le_trans h hg.size
def smV (s : Smp) : Array Value := #[.int .i64 s.off, .int .i64 s.del, .int .i64 s.disp, .int .i64 s.at_, .int .i64 s.total]
theorem five_at14 {w : World} {p : Nat} {a b c d e : Value} {t : TypeId} (h : w.heap[p]? = some (.cells #[a, b, c, d, e] t (0, 0))) :
    (w.cell? ⟨p, 0, none⟩ = some a ∧ w.cell? ⟨p, 1, none⟩ = some b ∧ w.cell? ⟨p, 2, none⟩ = some c ∧ w.cell? ⟨p, 3, none⟩ = some d ∧ w.cell? ⟨p, 4, none⟩ = some e) ∧ ∀ i, w.frozen? ⟨p, i, none⟩ = false := by
  refine ⟨⟨?_, ?_, ?_, ?_, ?_⟩, ?_⟩ <;> simp [World.cell?, World.frozen?, h]
theorem one_at14 {w : World} {p : Nat} {a : Value} {t : TypeId} (h : w.heap[p]? = some (.cells #[a] t (0, 0))) : w.cell? ⟨p, 0, none⟩ = some a ∧ w.frozen? ⟨p, 0, none⟩ = false := by
  refine ⟨?_, ?_⟩ <;> simp [World.cell?, World.frozen?, h]
theorem put_other14 {W : World} {D B : Nat} {o o' : Obj} {cs : Array Value} {t : TypeId} {fr : Nat × Nat} (hK : W.heap[D]? = some o) (ho : o.isCells = false) (h : W.heap[B]? = some (.cells cs t fr)) : (W.putObj D o').heap[B]? = some (.cells cs t fr) := by
  refine (World.putObj_heap_other (fun e => ?_)).trans h
  subst e
  rw [hK] at h
  cases h
  cases ho
theorem kpF_put {Fr : World → Nat → Prop} (W : World) (l : Nat) (o o' : Obj) (hl : W.heap[l]? = some o) (ho : o.isCells = false) (hf : ∀ b, Fr W b → Fr (W.putObj l o') b) : KpF Fr W (W.putObj l o') := by
  rintro b ⟨cs, t, fr, h⟩ hb
  exact ⟨(put_other14 hl ho h).trans h.symm, hf b hb⟩
theorem kpF_alloc {Fr : World → Nat → Prop} (W : World) (o : Obj) (hf : ∀ b, b < W.heap.size → Fr W b → Fr (W.alloc o) b) : KpF Fr W (W.alloc o) := by
  rintro b ⟨cs, t, fr, h⟩ hb
  have hlt := (Array.getElem?_eq_some_iff.1 h).1
  exact ⟨Below.heap_alloc W o b hlt, hf b hlt hb⟩
/-- Five cells, written one behind the other. -/
def put5 (W : World) (p : Nat) (a b c d e : Value) : World := ((((W.setCell ⟨p, 0, none⟩ a).setCell ⟨p, 1, none⟩ b).setCell ⟨p, 2, none⟩ c).setCell ⟨p, 3, none⟩ d).setCell ⟨p, 4, none⟩ e
theorem put5_at {W : World} {p : Nat} {t : TypeId} {a b c d e a' b' c' d' e' : Value} (h : W.heap[p]? = some (.cells #[a', b', c', d', e'] t (0, 0))) : (put5 W p a b c d e).heap[p]? = some (.cells #[a, b, c, d, e] t (0, 0)) :=
  block_set 4 e (block_set 3 d (block_set 2 c (block_set 1 b (block_set 0 a h))))
theorem put5_far {W : World} {p k : Nat} {a b c d e : Value} (hk : k ≠ p) : (put5 W p a b c d e).heap[k]? = W.heap[k]? := by
  unfold put5
  rw [block_far _ _ hk, block_far _ _ hk, block_far _ _ hk, block_far _ _ hk, block_far _ _ hk]
theorem put5_size (W : World) (p : Nat) (a b c d e : Value) : (put5 W p a b c d e).heap.size = W.heap.size := by
  unfold put5
  rw [set_size, set_size, set_size, set_size, set_size]
theorem put5_keeps (W : World) (p : Nat) (a b c d e : Value) : KeepsOthers W (put5 W p a b c d e) :=
  ((((KeepsOthers.setCell _ _ _).trans (KeepsOthers.setCell _ _ _)).trans (KeepsOthers.setCell _ _ _)).trans (KeepsOthers.setCell _ _ _)).trans (KeepsOthers.setCell _ _ _)
theorem put5_below {B : Nat} {w W : World} (h : Below B w W) (p : Nat) (hp : B ≤ p) (a b c d e : Value) : Below B w (put5 W p a b c d e) :=
  ((((h.setCell (p := ⟨p, 0, none⟩) hp _).setCell (p := ⟨p, 1, none⟩) hp _).setCell (p := ⟨p, 2, none⟩) hp _).setCell (p := ⟨p, 3, none⟩) hp _).setCell (p := ⟨p, 4, none⟩) hp _
/-- The first of all. -/
theorem best_first {f : Fl} {x : Itm} (h : ItPre f [x]) : x.1.2 = bestS f.l ∧ tellB f = true := by
  have h1 := (h 0 x rfl).2
  have hl := (List.getElem?_eq_some_iff.1 h1).1
  rw [ord_length] at hl
  refine ⟨?_, ?_⟩
  · unfold bestS
    rw [List.headD_eq_head?_getD, List.head?_eq_getElem?, h1]
    rfl
  · unfold tellB
    cases hf : f.l with
    | nil => rw [hf] at hl; simp at hl
    | cons a l => rfl
theorem best_none {f : Fl} (h : ItAll f []) : bestS f.l = Smp.zero ∧ tellB f = false := by
  have h0 : f.l = [] := List.eq_nil_of_length_eq_zero h.2.symm
  refine ⟨?_, ?_⟩
  · unfold bestS
    rw [h0]
    rfl
  · unfold tellB
    rw [h0]
    rfl
set_option maxRecDepth 100000 in
set_option maxHeartbeats 6400000 in
theorem fbest_any (f : Fl) (tf : f.Typed) (w : World) :
    Calls Tryz.prog 18 #[f.val] w fun e w' => e = .returned (.tuple #[(bestS f.l).val, .bool (tellB f)]) ∧ Below w.heap.size w w' := by
  have c0 := finorder_any f
  unfold Fl.val at *
  refine (callsIn_wide (n := 9)).1 ?_
  refine callsIn_of_wp_marks Tryz.func18 rfl trivial ?_ rfl
  simp only [Tryz.ntmps18, List.size_toArray, List.length_cons, List.length_nil, Nat.reduceAdd, Nat.reduceSub, Array.replicate_succ, Array.replicate_zero, List.push_toArray, List.append_toArray, List.nil_append, List.cons_append]
  have hr := fl_new w f
  have hB := (Below.refl w.heap.size w).alloc (Nat.le_refl _) (.cells f.cells 29)
  have hz := World.size_alloc w (.cells f.cells 29)
  generalize hw1 : w.alloc (.cells f.cells 29) = w1 at *
  have x1 := heap_alloc_new w1 (.cells #[.int .i64 0, .int .i64 0, .int .i64 0, .int .i64 0, .int .i64 0] 26)
  have hr1 := fl_kept hr ((Below.refl _ w1).alloc (Nat.le_refl _) (.cells #[.int .i64 0, .int .i64 0, .int .i64 0, .int .i64 0, .int .i64 0] 26))
  have hB1 := hB.alloc (by omega) (.cells #[.int .i64 0, .int .i64 0, .int .i64 0, .int .i64 0, .int .i64 0] 26)
  have hz1 := World.size_alloc w1 (.cells #[.int .i64 0, .int .i64 0, .int .i64 0, .int .i64 0, .int .i64 0] 26)
  generalize hw2 : w1.alloc (.cells #[.int .i64 0, .int .i64 0, .int .i64 0, .int .i64 0, .int .i64 0] 26) = w2 at *
  have x2 := heap_alloc_new w2 (.cells #[.bool false] 4)
  have x1' := (Below.heap_alloc w2 (.cells #[.bool false] 4) w1.heap.size (by omega)).trans x1
  have hr2 := fl_kept hr1 ((Below.refl _ w2).alloc (Nat.le_refl _) (.cells #[.bool false] 4))
  have hB2 := hB1.alloc (by omega) (.cells #[.bool false] 4)
  have hz2 := World.size_alloc w2 (.cells #[.bool false] 4)
  generalize hw3 : w2.alloc (.cells #[.bool false] 4) = w3 at *
  clear hr hr1 hB hB1 x1
  gi_wp2_with (first | (rw [hw1]) | (rw [hw2]) | (rw [hw3]) | (refine gi_load_fl rfl _ rfl _ rfl _ (by assumption) ?_))
  rw [hz] at x1'
  rw [hz1, hz] at x2
  have hsz : w3.heap.size = w.heap.size + 3 := by omega
  refine ⟨trivial, (callsIn_wide.2 (c0 _)).mono ?_⟩
  rintro e w' ⟨rfl, rfl⟩
  have y1 := (Below.heap_alloc w3 (.cells f.cells 29) _ (by omega)).trans x1'
  have y2 := (Below.heap_alloc w3 (.cells f.cells 29) _ (by omega)).trans x2
  have hr4 := fl_new w3 f
  have hB4 := hB2.alloc (by omega) (.cells f.cells 29)
  have hz4 := World.size_alloc w3 (.cells f.cells 29)
  generalize w3.alloc (.cells f.cells 29) = w4 at *
  rw [hsz] at hr4 hz4
  clear x1' x2 hr2 hB2 c0 hw1 hw2 hw3 hz hz1 hz2
  gi_wp2_with fail
  refine wpIn_rangeFunc_ownH rfl (by omega) (gf := 65) (lb := #[.pointer (some ⟨w.heap.size + 3, 0, none⟩)]) rfl trivial (enters_of Tryz.func65 (by kernel_rfl) rfl)
    (it_stops 8 (by omega) f tf (w.heap.size + 3) (fun _ _ => True) w4 hr4 (fun _ _ _ _ => trivial)) (fun h k => h.trans k) (fun W l o o' _ hl ho _ => kpF_put W l o o' hl ho (fun _ _ => trivial)) (Below.refl _ _) (fun _ => rfl)
    (fun pre W => (pre = [] ∧ W.heap[w.heap.size + 1]? = some (.cells #[.int .i64 0, .int .i64 0, .int .i64 0, .int .i64 0, .int .i64 0] 26 (0, 0)) ∧ W.heap[w.heap.size + 1 + 1]? = some (.cells #[.bool false] 4 (0, 0))) ∧ (Below w.heap.size w W ∧ w4.heap.size ≤ W.heap.size))
    (fun c pre W => (c = .ret ∧ ∃ x : Itm, pre = [x] ∧ W.heap[w.heap.size + 1]? = some (.cells (smV x.1.2) 26 (0, 0)) ∧ W.heap[w.heap.size + 1 + 1]? = some (.cells #[.bool true] 4 (0, 0))) ∧ (Below w.heap.size w W ∧ w4.heap.size ≤ W.heap.size))
    (OwnFrom.and (OwnFrom.and (ownFrom_pure _ _) (OwnFrom.and ((own_blk14 _ _ _ _).from _) ((own_blk14 _ _ _ _).from _))) (OwnFrom.and (ownFrom_below (Nat.le_refl _) (by omega)) ((own_lt14 _).from _)))
    (fun c => OwnFrom.and (fun s X Y row h hg hr => by
      obtain ⟨hc, x, hx, h1, h2⟩ := h
      exact ⟨hc, x, hx, (own_blk14 _ (fun _ : Unit => smV x.1.2) _ _).from _ () X Y row h1 hg hr, (own_blk14 _ (fun _ : Unit => #[.bool true]) _ _).from _ () X Y row h2 hg hr⟩) (OwnFrom.and (ownFrom_below (Nat.le_refl _) (by omega)) ((own_lt14 _).from _)))
    ⟨⟨rfl, y1, y2⟩, hB4, Nat.le_refl _⟩
    (fun x a' W => ∃ Bx, w4.heap.size ≤ Bx ∧ W.heap[Bx]? = some (.cells (smV x.1.2) 26 (0, 0)) ∧
      a' = { tmps := #[.agg f.cells, .pointer (some ⟨w.heap.size, 0, none⟩), .pointer (some ⟨w.heap.size + 1, 0, none⟩), .pointer (some ⟨w.heap.size + 1 + 1, 0, none⟩), undef, .pointer (some ⟨Bx, 0, none⟩), .agg f.cells, .func (.func 65) #[] #[.pointer (some ⟨w.heap.size + 3, 0, none⟩)], .int .i64 (x.1.1 : Int), x.1.2.val, undef, undef], defers := [] })
    (fun x a' s X Y row h hg hr => by
      obtain ⟨Bx, h1, h2, h3⟩ := h
      exact ⟨Bx, h1, (own_blk14 Bx (fun _ : Unit => smV x.1.2) _ _).from _ () X Y row h2 hg hr, h3⟩)
    ?assign ?body ?done ?stop
  case assign =>
    rintro lp pre x W K ⟨⟨rfl, h1, h2⟩, hB, hz⟩ hK
    have hsB := hB.size
    have k1 := (Below.heap_alloc W (.cells (smV x.1.2) 26) _ (by omega)).trans h1
    have k2 := (Below.heap_alloc W (.cells (smV x.1.2) 26) _ (by omega)).trans h2
    have HK := Lib.hid (And.intro k1 k2)
    unfold Smp.val
    gi_wp2_with fail
    exact hK _ _ ((KeepsOthers.alloc _ _).from _) (kpF_alloc W _ (fun _ _ _ => trivial)) ⟨⟨trivial, HK.out.1, HK.out.2⟩, hB.alloc hsB _, by rw [World.size_alloc]; omega⟩ ⟨W.heap.size, hz, heap_alloc_new _ _, rfl⟩
  case body =>
    rintro lp pre x a' W hlp ⟨rc, hrc⟩ ⟨⟨rfl, h1, h2⟩, hB, hz⟩ ⟨Bx, hBx, hblk, rfl⟩ hlt
    have H := Lib.hid (And.intro h1 (And.intro h2 hB))
    obtain ⟨⟨a0, a1, a2, a3, a4⟩, fa⟩ := five_at14 h1
    obtain ⟨b0, fb⟩ := one_at14 h2
    obtain ⟨⟨c0, c1, c2, c3, c4⟩, _⟩ := five_at14 hblk
    clear h1 h2 hblk hB hrc
    unfold Smp.val
    gi_wp2_with fail
    obtain ⟨g1, g2, hB⟩ := H.out
    have e1 := put5_at (a := .int .i64 x.1.2.off) (b := .int .i64 x.1.2.del) (c := .int .i64 x.1.2.disp) (d := .int .i64 x.1.2.at_) (e := .int .i64 x.1.2.total) g1
    have e2 := (put5_far (a := .int .i64 x.1.2.off) (b := .int .i64 x.1.2.del) (c := .int .i64 x.1.2.disp) (d := .int .i64 x.1.2.at_) (e := .int .i64 x.1.2.total) (show w.heap.size + 1 + 1 ≠ w.heap.size + 1 by omega)).trans g2
    refine ⟨((put5_keeps W (w.heap.size + 1) _ _ _ _ _).trans (KeepsOthers.setCell _ _ _)).from _, ⟨rfl, x, rfl, (block_far _ _ (by omega)).trans e1, block_set 0 _ e2⟩, (put5_below hB (w.heap.size + 1) (by omega) _ _ _ _ _).setCell (p := ⟨w.heap.size + 1 + 1, 0, none⟩) (by show w.heap.size ≤ w.heap.size + 1 + 1; omega) _, ?_⟩
    rw [set_size, ← put5, put5_size]
    exact hz
  case done =>
    rintro D xs W hD hS ⟨⟨rfl, h1, h2⟩, hB, hz⟩ hK
    obtain ⟨e1, e2⟩ := best_none hS
    have H := Lib.hid (And.intro h1 (And.intro h2 hB))
    have E := Lib.hid (And.intro e1 e2)
    obtain ⟨⟨a0, a1, a2, a3, a4⟩, fa⟩ := five_at14 h1
    obtain ⟨b0, fb⟩ := one_at14 h2
    clear h1 h2 hB e1 e2
    gi_wp2_with fail
    obtain ⟨g1, g2, hB⟩ := H.out
    obtain ⟨q1, q2⟩ := E.out
    have e1 := put5_at (a := .int .i64 0) (b := .int .i64 0) (c := .int .i64 0) (d := .int .i64 0) (e := .int .i64 0) g1
    have e2 := (put5_far (a := .int .i64 0) (b := .int .i64 0) (c := .int .i64 0) (d := .int .i64 0) (e := .int .i64 0) (show w.heap.size + 1 + 1 ≠ w.heap.size + 1 by omega)).trans g2
    have e3 := (block_far (w := put5 W (w.heap.size + 1) (.int .i64 0) (.int .i64 0) (.int .i64 0) (.int .i64 0) (.int .i64 0)) (b := w.heap.size + 1 + 1) 0 (.bool false) (show w.heap.size + 1 ≠ w.heap.size + 1 + 1 by omega)).trans e1
    have e4 := block_set 0 (.bool false) e2
    have hBf := (put5_below hB (w.heap.size + 1) (by omega) (.int .i64 0) (.int .i64 0) (.int .i64 0) (.int .i64 0) (.int .i64 0)).setCell (p := ⟨w.heap.size + 1 + 1, 0, none⟩) (by show w.heap.size ≤ w.heap.size + 1 + 1; omega) (.bool false)
    have hKf := ((put5_keeps W (w.heap.size + 1) (.int .i64 0) (.int .i64 0) (.int .i64 0) (.int .i64 0) (.int .i64 0)).trans (KeepsOthers.setCell _ ⟨w.heap.size + 1 + 1, 0, none⟩ (.bool false))).same D _ hK rfl
    unfold put5 at *
    generalize (((((W.setCell ⟨w.heap.size + 1, 0, none⟩ (.int .i64 0)).setCell ⟨w.heap.size + 1, 1, none⟩ (.int .i64 0)).setCell ⟨w.heap.size + 1, 2, none⟩ (.int .i64 0)).setCell ⟨w.heap.size + 1, 3, none⟩ (.int .i64 0)).setCell ⟨w.heap.size + 1, 4, none⟩ (.int .i64 0)).setCell ⟨w.heap.size + 1 + 1, 0, none⟩ (.bool false) = WF at *
    clear a0 a1 a2 a3 a4 b0 fa fb e1 e2 g1 g2
    obtain ⟨⟨a0, a1, a2, a3, a4⟩, _⟩ := five_at14 (put_other14 (o' := .deferred none) hKf rfl e3)
    obtain ⟨b0, _⟩ := one_at14 (put_other14 (o' := .deferred none) hKf rfl e4)
    refine ⟨by simp, .inl ⟨_, _, rfl, run_takeDeferred hKf, ?_⟩⟩
    rw [q1, q2]
    refine ⟨_, ?_, rfl, hBf.trans (belowK_b (w := w) (Nat.le_refl _) WF D _ _ (by omega) hKf rfl rfl)⟩
    simp [results, Tryz.results18, go_sem, a0, a1, a2, a3, a4, b0]
    rfl
  case stop =>
    rintro D c pre W hD hSp ⟨⟨rfl, x, rfl, h1, h2⟩, hB, hz⟩ hK
    obtain ⟨e1, e2⟩ := best_first hSp
    have H := Lib.hid (And.intro h1 (And.intro h2 hB))
    have E := Lib.hid (And.intro e1 e2)
    clear hB e1 e2
    gi_wp2_with fail
    obtain ⟨g1, g2, hB⟩ := H.out
    obtain ⟨q1, q2⟩ := E.out
    obtain ⟨⟨a0, a1, a2, a3, a4⟩, _⟩ := five_at14 (put_other14 (o' := .deferred none) hK rfl g1)
    obtain ⟨b0, _⟩ := one_at14 (put_other14 (o' := .deferred none) hK rfl g2)
    refine ⟨by simp, .inl ⟨_, _, rfl, run_takeDeferred hK, ?_⟩⟩
    rw [← q1, q2]
    refine ⟨_, ?_, rfl, hB.trans (belowK_b (w := w) (Nat.le_refl _) W D _ _ (by omega) hK rfl rfl)⟩
    simp [results, Tryz.results18, go_sem, a0, a1, a2, a3, a4, b0]
    rfl
end Go.Proofs.YtiadaaihlimloaaGreat.W

/- Layer 14's own code, walked: how far a filter may be wrong. -/
namespace Go.Proofs.YtiadaaihlimloaaGreat.W
open Go.RowKit Go.Shelf Go.Sort
set_option linter.unusedVariables false
set_option linter.unusedSimpArgs false
attribute [local go_sem] Oper.semAt_some
/-- Eight numbers as a row. -/
def rowG (g : Nat → Int) : Array Value := ((List.range 8).map fun j => Value.int .i64 (g j)).toArray
theorem rowG_size (g : Nat → Int) : (rowG g).size = 8 := rfl
theorem rowG_get (g : Nat → Int) (j : Nat) (h : j < 8) : (rowG g)[j]? = some (.int .i64 (g j)) := by
  simp [rowG, h]
theorem rowG_set (g : Nat → Int) (i : Nat) (v : Int) : (rowG g).setIfInBounds i (.int .i64 v) = rowG (fun j => if j = i then v else g j) := by
  apply Array.ext_getElem?
  intro j
  rw [Array.getElem?_setIfInBounds]
  by_cases hj : j < 8
  · rw [rowG_get g j hj, rowG_get _ j hj]
    by_cases e : i = j
    · subst e
      simp [rowG_size, hj]
    · rw [if_neg e, if_neg (fun h => e h.symm)]
  · by_cases e : i = j
    · subst e
      rw [if_pos rfl, rowG_size, if_neg hj, Array.getElem?_eq_none (by rw [rowG_size]; omega)]
    · rw [if_neg e, Array.getElem?_eq_none (by rw [rowG_size]; omega), Array.getElem?_eq_none (by rw [rowG_size]; omega)]
theorem rowG_at {w : World} {b : Nat} {g : Nat → Int} {t : TypeId} (h : w.heap[b]? = some (.cells (rowG g) t (0, 0))) (j : Nat) (hj : j < 8) : w.cell? ⟨b, j, none⟩ = some (.int .i64 (g j)) ∧ w.frozen? ⟨b, j, none⟩ = false := by
  refine ⟨?_, ?_⟩
  · simp only [World.cell?, h, Option.bind_some, rowG_get g j hj]
    rfl
  · simp [World.frozen?, h]
theorem rowG_congr {g g' : Nat → Int} (h : ∀ j, j < 8 → g j = g' j) : rowG g = rowG g' := by
  unfold rowG
  congr 1
  apply List.map_congr_left
  intro j hj
  rw [h j (List.mem_range.1 hj)]
/-- The ages of those that came; who is missing tells nothing. -/
def agesW (p : Pm) (at_ : Int) (pre : List Itm) : Nat → Int := pre.foldl (fun g x j => if j = x.1.1 then ageI p x.1.2 at_ else g j) (fun _ => 68719476736)
theorem agesW_snoc (p : Pm) (at_ : Int) (pre : List Itm) (x : Itm) : agesW p at_ (pre ++ [x]) = fun j => if j = x.1.1 then ageI p x.1.2 at_ else agesW p at_ pre j := by
  unfold agesW
  rw [List.foldl_append]
  rfl
theorem agesW_at (p : Pm) (at_ : Int) (f : Fl) : ∀ (n : Nat) (pre : List Itm), pre.length = n → ItPre f pre → ∀ j, agesW p at_ pre j = if j < pre.length then agesF p (ordS f.l) at_ j else 68719476736
  | 0, pre, hn, _, j => by
    obtain rfl : pre = [] := List.eq_nil_of_length_eq_zero hn
    rfl
  | n + 1, l, hn, h, j => by
    rcases List.eq_nil_or_concat l with rfl | ⟨pre, x, e⟩
    · simp at hn
    rw [List.concat_eq_append] at e
    subst e
    have ih := agesW_at p at_ f n pre (by simpa using hn)
    have hp : ItPre f pre := fun i y hy => h i y (by rw [List.getElem?_append_left (List.getElem?_eq_some_iff.1 hy).1]; exact hy)
    obtain ⟨h1, h2⟩ := h pre.length x (by simp)
    have hl := (List.getElem?_eq_some_iff.1 h2).1
    have he := (List.getElem?_eq_some_iff.1 h2).2
    rw [agesW_snoc]
    show (if j = x.1.1 then ageI p x.1.2 at_ else agesW p at_ pre j) = _
    rw [ih hp j, h1, List.length_append, List.length_singleton]
    by_cases e : j = pre.length
    · subst e
      rw [if_pos rfl, if_pos (by omega)]
      unfold agesF
      rw [dif_pos hl, he]
    · rw [if_neg e]
      by_cases g : j < pre.length
      · rw [if_pos g, if_pos (by omega)]
      · rw [if_neg g, if_neg (by omega)]
theorem agesW_is (p : Pm) (at_ : Int) (f : Fl) (pre : List Itm) (h : ItPre f pre) (j : Nat) : agesW p at_ pre j = if j < pre.length then agesF p (ordS f.l) at_ j else 68719476736 := agesW_at p at_ f _ pre rfl h j
theorem ages_all (p : Pm) (at_ : Int) (f : Fl) (xs : List Itm) (h : ItAll f xs) (j : Nat) : agesW p at_ xs j = agesF p (ordS f.l) at_ j := by
  rw [agesW_is p at_ f xs h.1 j, h.2]
  by_cases g : j < f.l.length
  · rw [if_pos g]
  · rw [if_neg g]
    unfold agesF
    rw [dif_neg (by rw [ord_length]; exact g)]
theorem kpF_below {Fr : World → Nat → Prop} {W W' : World} (h : Below W.heap.size W W') (hf : ∀ b, b < W.heap.size → Fr W b → Fr W' b) : KpF Fr W W' := by
  rintro b ⟨cs, t, fr, hb⟩ hfr
  have hlt := (Array.getElem?_eq_some_iff.1 hb).1
  exact ⟨h.block b hlt, hf b hlt hfr⟩
theorem kpF_set {Fr : World → Nat → Prop} (W : World) (a : Addr) (v : Value) (ha : ∀ b, Fr W b → b ≠ a.block) (hf : ∀ b, Fr W b → Fr (W.setCell a v) b) : KpF Fr W (W.setCell a v) := by
  rintro b _ hfr
  exact ⟨Below.heap_setCell _ _ _ b (ha b hfr), hf b hfr⟩
theorem keeps_below {W W' : World} (h : Below W.heap.size W W') : KeepsOthers W W' := KeepsOthers.of_grownBy (row := none) ⟨h.os, h.tape, h.output, h.size, fun k hk _ => h.block k hk⟩ (fun _ _ e => by cases e)
theorem four_new (w : World) (A B C D : Array Value) (ta tb tc td : TypeId) (W : World) (h : (((w.alloc (.cells A ta)).alloc (.cells B tb)).alloc (.cells C tc)).alloc (.cells D td) = W) :
    W.heap[w.heap.size]? = some (.cells A ta (0, 0)) ∧ W.heap[w.heap.size + 1]? = some (.cells B tb (0, 0)) ∧ W.heap[w.heap.size + 1 + 1]? = some (.cells C tc (0, 0)) ∧ W.heap[w.heap.size + 1 + 1 + 1]? = some (.cells D td (0, 0)) ∧ Below w.heap.size w W ∧ W.heap.size = w.heap.size + 4 := by
  subst h
  have a1 := heap_alloc_new w (.cells A ta)
  have z1 := World.size_alloc w (.cells A ta)
  have b1 := (Below.refl w.heap.size w).alloc (Nat.le_refl _) (.cells A ta)
  generalize w.alloc (.cells A ta) = w1 at *
  have a2 := heap_alloc_new w1 (.cells B tb)
  have z2 := World.size_alloc w1 (.cells B tb)
  have b2 := b1.alloc (by omega) (.cells B tb)
  have c1 := (Below.heap_alloc w1 (.cells B tb) _ (by omega)).trans a1
  generalize w1.alloc (.cells B tb) = w2 at *
  have a3 := heap_alloc_new w2 (.cells C tc)
  have z3 := World.size_alloc w2 (.cells C tc)
  have b3 := b2.alloc (by omega) (.cells C tc)
  have d1 := (Below.heap_alloc w2 (.cells C tc) _ (by omega)).trans c1
  have d2 := (Below.heap_alloc w2 (.cells C tc) _ (by omega)).trans a2
  generalize w2.alloc (.cells C tc) = w3 at *
  have a4 := heap_alloc_new w3 (.cells D td)
  have z4 := World.size_alloc w3 (.cells D td)
  have b4 := b3.alloc (by omega) (.cells D td)
  have e1 := (Below.heap_alloc w3 (.cells D td) _ (by omega)).trans d1
  have e2 := (Below.heap_alloc w3 (.cells D td) _ (by omega)).trans d2
  have e3 := (Below.heap_alloc w3 (.cells D td) _ (by omega)).trans a3
  rw [z1] at e2
  rw [z2, z1] at e3
  rw [z3, z2, z1] at a4
  exact ⟨e1, e2, e3, a4, b4, by omega⟩
theorem info_i64_14 : (Tryz.prog.info? 2).map (·.size) = some 1 := by kernel_rfl
theorem info_ages : (Tryz.prog.info? 75).map (·.size) = some 8 := by kernel_rfl
theorem index_rowG (g : Nat → Int) (i : Nat) (h : i < 8) (w : World) : (Instr.index 75 (.agg (rowG g)) (.int .i64 i)).run Tryz.prog w = .ok (.int .i64 (g i)) w := by
  have hs := info_i64_14
  cases hq : Tryz.prog.info? 2 with
  | none => simp [hq] at hs
  | some q =>
    have hi : q.size = 1 := by simpa [hq] using hs
    have hc : i = 0 ∨ i = 1 ∨ i = 2 ∨ i = 3 ∨ i = 4 ∨ i = 5 ∨ i = 6 ∨ i = 7 := by omega
    rcases hc with rfl | rfl | rfl | rfl | rfl | rfl | rfl | rfl <;> simp [rowG, Instr.index, run_underlying Tryz.underlying75, run_underlying Tryz.underlying2, asIntOf, part, isAgg, sizeOf, typeInfo, hq, hi, go_sem]
theorem load_ages {w : World} {b : Nat} {g : Nat → Int} {t : TypeId} (h : w.heap[b]? = some (.cells (rowG g) t (0, 0))) : (Instr.loadAt 75 (.pointer (some ⟨b, 0, none⟩))).run Tryz.prog w = .ok (.agg (rowG g)) w := by
  have e := rowOf_heap h
  have := load_big (P := Tryz.prog) Tryz.underlying75 rfl info_ages (by decide) w b (by rw [e]; rfl)
  rw [e] at this
  exact this
section
variable {ops : Array Oper} {rest : List Oper} {o : Oper} {a : Act} {w : World} {Q : Exit → Act → World → Prop} {F : Fence} {n : Nat}
theorem gi_load_ages (hgd : o.guard = none) (x : Operand) (ho : o.op = .load 75 x) (b : Nat) (hx : a.eval x = .pointer (some ⟨b, 0, none⟩)) (g : Nat → Int) (t : TypeId) (hf : w.heap[b]? = some (.cells (rowG g) t (0, 0))) (h : wpListIn F n Tryz.prog ops Q rest (a.put o.dst (.agg (rowG g))) w) : wpListIn F n Tryz.prog ops Q (o :: rest) a w := by
  refine wpListIn_plain hgd fun K hK => ?_
  unfold Oper.wpIn
  refine ⟨?_, ?_⟩
  · simp [Oper.about, ho]
  · rw [Oper.semAt_plain F _ _ (by rw [ho]; intro c hc'; cases hc')]
    unfold execOp
    simp only [ho, hx, Sem.run_bind, load_ages hf, Result.andThen_ok, Sem.run_pure]
    exact hK _ _ h
end
theorem agesF_range (p : Pm) (o : List Smp) (at_ : Int) (i : Nat) : -9223372036854775807 ≤ agesF p o at_ i ∧ agesF p o at_ i ≤ 9223372036854775807 := by
  unfold agesF
  split
  · unfold ageI
    have := addI_range (o[i]).disp (mulI p.phi (max 0 (subI at_ (o[i]).at_)))
    omega
  · omega
theorem dispF_range (p : Pm) (o : List Smp) (at_ : Int) (i : Nat) : -9223372036854775807 ≤ dispF p o at_ i ∧ dispF p o at_ i ≤ 9223372036854775807 := by
  cases i with
  | zero =>
    unfold dispF
    omega
  | succ i => exact addI_range _ _
theorem rowG_zero : rowG (fun j => if j < 0 then 68719476736 else 0) = #[.int .i64 0, .int .i64 0, .int .i64 0, .int .i64 0, .int .i64 0, .int .i64 0, .int .i64 0, .int .i64 0] := rfl
set_option maxRecDepth 100000 in
set_option maxHeartbeats 12800000 in
theorem fdisp_any (p : Pm) (tp : p.Typed) (f : Fl) (tf : f.Typed) (at_ : Int) (a0 : -9223372036854775808 ≤ at_ ∧ at_ ≤ 9223372036854775807) (w : World) :
    Calls Tryz.prog 20 #[p.val, f.val, .int .i64 at_] w fun e w' => e = .returned (.int .i64 (dispF p (ordS f.l) at_ 8)) ∧ Below w.heap.size w w' := by
  have c0 := finorder_any f
  unfold Fl.val Pm.val at *
  refine (callsIn_wide (n := 9)).1 ?_
  refine callsIn_of_wp_marks Tryz.func20 rfl trivial ?_ rfl
  simp only [Tryz.ntmps20, List.size_toArray, List.length_cons, List.length_nil, Nat.reduceAdd, Nat.reduceSub, Array.replicate_succ, Array.replicate_zero, List.push_toArray, List.append_toArray, List.nil_append, List.cons_append]
  gi_wp2_with fail
  obtain ⟨wd, hwd⟩ : ∃ wd, (((w.alloc (.cells (pmC p) 38)).alloc (.cells f.cells 29)).alloc (.cells #[.int .i64 at_] 2)).alloc (.cells #[.int .i64 0, .int .i64 0, .int .i64 0, .int .i64 0, .int .i64 0, .int .i64 0, .int .i64 0, .int .i64 0] 75) = wd := ⟨_, rfl⟩
  obtain ⟨hp, hf, ha, hg, hB, hz⟩ := four_new _ _ _ _ _ _ _ _ _ _ hwd
  unfold pmC at hwd
  rw [hwd]
  rw [← rowG_zero] at hg
  replace hf := rowOf_heap hf
  clear hwd
  gi_loopw [14] (fun v wr => ∃ i : Nat, i ≤ 8 ∧ v = .int .i64 i ∧ wr.heap[w.heap.size + 1 + 1 + 1]? = some (.cells (rowG (fun j => if j < i then 68719476736 else 0)) 75 (0, 0)) ∧ wr.heap[w.heap.size]? = some (.cells (pmC p) 38 (0, 0)) ∧ rowOf wr (w.heap.size + 1) = f.cells ∧ wr.heap[w.heap.size + 1 + 1]? = some (.cells #[.int .i64 at_] 2 (0, 0)) ∧ Below w.heap.size w wr ∧ wr.heap.size = w.heap.size + 4) (fun v _ => 8 - (intOf v).toNat)
  case atStart => exact ⟨0, Nat.zero_le _, rfl, hg, hp, hf, ha, hB, hz⟩
  case round =>
    obtain ⟨i, hi, rfl, hgi, hpi, hfi, hai, hBi, hzi⟩ := hrel
    clear hg hp hf ha hB hz
    by_cases h8 : i < 8
    · have hii : (i : Int) < 8 := by omega
      have h0i : (0 : Int) ≤ (i : Int) := by omega
      obtain ⟨c0, f0⟩ := rowG_at hgi i h8
      have E := Lib.hid (And.intro hgi (And.intro hpi (And.intro hfi (And.intro hai (And.intro hBi hzi)))))
      clear hgi hpi hfi hai hBi hzi
      gi_wp2_with fail
      go_roundw
      obtain ⟨hgi, hpi, hfi, hai, hBi, hzi⟩ := E.out
      case rel =>
        refine ⟨i + 1, by omega, rfl, ?_, (block_far _ _ (by omega)).trans hpi, (row_same (block_far _ _ (by omega))).trans hfi, (block_far _ _ (by omega)).trans hai, hBi.setCell (p := ⟨w.heap.size + 1 + 1 + 1, i, none⟩) (by show w.heap.size ≤ w.heap.size + 1 + 1 + 1; omega) _, by rw [set_size]; exact hzi⟩
        rw [block_set i _ hgi, rowG_set]
        congr 2
        apply rowG_congr
        intro j hj
        by_cases e : j = i
        · rw [if_pos e, if_pos (by omega)]
        · by_cases g : j < i
          · rw [if_neg e, if_pos g, if_pos (by omega)]
          · rw [if_neg e, if_neg g, if_neg (by omega)]
      case measure => simp [intOf]; omega
    · obtain rfl : i = 8 := by omega
      have hg0 : rowG (fun j => if j < 8 then 68719476736 else 0) = rowG (agesW p at_ []) := by
        apply rowG_congr
        intro j hj
        rw [if_pos hj]
        rfl
      rw [hg0] at hgi
      clear hg0
      gi_wp2_with (refine gi_load_fl rfl _ rfl _ rfl _ (by assumption) ?_)
      refine ⟨trivial, (callsIn_wide.2 (c0 _)).mono ?_⟩
      rintro e w' ⟨rfl, rfl⟩
      have g1 := (Below.heap_alloc wr (.cells f.cells 29) _ (by omega)).trans hgi
      have p1 := (Below.heap_alloc wr (.cells f.cells 29) _ (by omega)).trans hpi
      have a1 := (Below.heap_alloc wr (.cells f.cells 29) _ (by omega)).trans hai
      have hr4 := fl_new wr f
      have hB4 := hBi.alloc (by omega) (.cells f.cells 29)
      have hz4 := World.size_alloc wr (.cells f.cells 29)
      generalize wr.alloc (.cells f.cells 29) = w4 at *
      rw [hzi] at hr4 hz4
      clear hgi hpi hfi hai hBi c0
      gi_wp2_with fail
      refine wpIn_rangeFunc_ownH rfl (by omega) (gf := 65) (lb := #[.pointer (some ⟨w.heap.size + 4, 0, none⟩)]) rfl trivial (enters_of Tryz.func65 (by kernel_rfl) rfl)
        (it_stops 8 (by omega) f tf (w.heap.size + 4) (fun _ b => b ≠ w.heap.size + 1 + 1 + 1) w4 hr4 (fun W2 hb b hb2 => by omega)) (fun h k => h.trans k) (fun W l o o' _ hl ho _ => kpF_put W l o o' hl ho (fun _ h => h)) (Below.refl _ _) (fun _ => rfl)
        (fun pre W => (W.heap[w.heap.size + 1 + 1 + 1]? = some (.cells (rowG (agesW p at_ pre)) 75 (0, 0)) ∧ W.heap[w.heap.size]? = some (.cells (pmC p) 38 (0, 0)) ∧ W.heap[w.heap.size + 1 + 1]? = some (.cells #[.int .i64 at_] 2 (0, 0))) ∧ (Below w.heap.size w W ∧ w4.heap.size ≤ W.heap.size))
        (fun c pre W => False)
        (OwnFrom.and (OwnFrom.and ((own_blk14 _ (fun pre : List Itm => rowG (agesW p at_ pre)) _ _).from _) (OwnFrom.and ((own_blk14 _ _ _ _).from _) ((own_blk14 _ _ _ _).from _))) (OwnFrom.and (ownFrom_below (Nat.le_refl _) (by omega)) ((own_lt14 _).from _)))
        (fun c s X Y row h hg hr => h)
        ⟨⟨g1, p1, a1⟩, hB4, Nat.le_refl _⟩
        (fun x a' W => ∃ Bx, w4.heap.size ≤ Bx ∧ W.heap[Bx]? = some (.cells (smV x.1.2) 26 (0, 0)) ∧
          a' = { tmps := #[.agg (pmC p), .agg f.cells, .int .i64 at_, .pointer (some ⟨w.heap.size, 0, none⟩), .pointer (some ⟨w.heap.size + 1, 0, none⟩), .pointer (some ⟨w.heap.size + 1 + 1, 0, none⟩), .int .i64 0, .pointer (some ⟨w.heap.size + 1 + 1 + 1, 0, none⟩), u8, .int .i64 (x.1.1 : Int), .pointer (some ⟨Bx, 0, none⟩), undef, undef, undef, .int .i64 8, .bool false, u16, u17, u18, u19, .agg f.cells, .func (.func 65) #[] #[.pointer (some ⟨w.heap.size + 4, 0, none⟩)], .int .i64 (x.1.1 : Int), x.1.2.val, undef, undef, undef, undef, undef, undef, undef, undef, undef, undef, undef, undef, undef, undef, undef, undef, undef, undef, undef, undef], defers := [] })
        (fun x a' s X Y row h hg hr => by
          obtain ⟨Bx, h1, h2, h3⟩ := h
          exact ⟨Bx, h1, (own_blk14 Bx (fun _ : Unit => smV x.1.2) _ _).from _ () X Y row h2 hg hr, h3⟩)
        ?assign ?body ?done ?stop
      case assign =>
        rintro lp pre x W K ⟨⟨h1, h2, h3⟩, hB, hz⟩ hK
        have hsB := hB.size
        have k1 := (Below.heap_alloc W (.cells (smV x.1.2) 26) _ (by omega)).trans h1
        have k2 := (Below.heap_alloc W (.cells (smV x.1.2) 26) _ (by omega)).trans h2
        have k3 := (Below.heap_alloc W (.cells (smV x.1.2) 26) _ (by omega)).trans h3
        have HK := Lib.hid (And.intro k1 (And.intro k2 k3))
        clear h1 h2 h3 k1 k2 k3 g1 p1 a1 hr4 hB4
        unfold Smp.val
        gi_wp2_with fail
        exact hK _ _ ((KeepsOthers.alloc _ _).from _) (kpF_alloc W _ (fun _ _ h => h)) ⟨HK.out, hB.alloc hsB _, by rw [World.size_alloc]; omega⟩ ⟨W.heap.size, hz, heap_alloc_new _ _, rfl⟩
      case body =>
        rintro lp pre x a' W hlp ⟨rc, hrc⟩ ⟨⟨h1, h2, h3⟩, hB, hz⟩ ⟨Bx, hBx, hblk, rfl⟩ hlt
        have cage := sage_any p tp x.1.2 x.2.2 at_ a0
        obtain ⟨⟨s0, s1, s2, s3, s4⟩, _⟩ := five_at14 hblk
        have h2' := h2
        unfold pmC at h2'
        obtain ⟨q0, q1, q2, q3, q4, q5, q6, q7, q8, q9, q10, q11⟩ := twelve_at h2'
        obtain ⟨t0, _⟩ := one_at14 h3
        have hx8 := x.2.1
        have H := Lib.hid (And.intro h1 (And.intro h2 (And.intro h3 hB)))
        clear h1 h2 h3 hB hblk h2' hrc g1 p1 a1 hr4 hB4
        unfold Smp.val Pm.val at *
        unfold pmC
        gi_wp2_with fail
        refine ⟨trivial, (CallsIn.inRound lp (callsIn_wide.2 (cage _))).mono ?_⟩
        rintro e w5 ⟨rfl, hB5⟩
        obtain ⟨h1, h2, h3, hB⟩ := H.out
        have z5 := hB5.size
        have k1 := (hB5.block _ (by omega)).trans h1
        have k2 := (hB5.block _ (by omega)).trans h2
        have k3 := (hB5.block _ (by omega)).trans h3
        obtain ⟨cc, ff⟩ := rowG_at k1 x.1.1 hx8
        have lx : (x.1.1 : Int) < 8 := by omega
        have gx : (0 : Int) ≤ (x.1.1 : Int) := by omega
        have HH := Lib.hid (And.intro k1 (And.intro k2 (And.intro k3 (And.intro hB hB5))))
        clear h1 h2 h3 hB k1 k2 k3 s0 s1 s2 s3 s4 q0 q1 q2 q3 q4 q5 q6 q7 q8 q9 q10 q11 t0 hB5 cage H
        gi_wp2_with fail
        obtain ⟨k1, k2, k3, hB, hB5⟩ := HH.out
        refine ⟨((keeps_below hB5).trans (KeepsOthers.setCell _ _ _)).from _, (kpF_below hB5 (fun _ _ h => h)).trans (kpF_set _ _ _ (fun _ h => h) (fun _ h => h)), ⟨?_, (block_far _ _ (by omega)).trans k2, (block_far _ _ (by omega)).trans k3⟩, (hB.trans (hB5.mono (by omega))).setCell (p := ⟨w.heap.size + 1 + 1 + 1, x.1.1, none⟩) (by show w.heap.size ≤ w.heap.size + 1 + 1 + 1; omega) _, by rw [set_size]; omega⟩
        rw [block_set x.1.1 _ k1, rowG_set, agesW_snoc]
      case done =>
        rintro D xs W hD hS ⟨⟨h1, h2, h3⟩, hB, hz⟩ hK
        have hG : agesW p at_ xs = agesF p (ordS f.l) at_ := funext (ages_all p at_ f xs hS)
        rw [hG] at h1
        have HE := Lib.hid (And.intro hB hK)
        clear h2 h3 hB hK hS hG g1 p1 a1 hr4 hB4
        obtain ⟨o, ho⟩ : ∃ o, ordS f.l = o := ⟨_, rfl⟩
        rw [ho] at h1
        have HO := Lib.hid ho
        clear ho
        gi_wp2_with (refine gi_load_ages rfl _ rfl _ rfl _ _ (by assumption) ?_)
        gi_loopw [31, 11] (fun v s wr => ∃ i : Nat, i ≤ 8 ∧ v = .int .i64 i ∧ s = .int .i64 (dispF p o at_ i) ∧ wr = W) (fun v _ _ => 8 - (intOf v).toNat)
        case atStart => exact ⟨0, Nat.zero_le _, rfl, rfl, rfl⟩
        case round =>
          obtain ⟨i, hi, rfl, rfl, rfl⟩ := hrel
          by_cases h8 : i < 8
          · have hix := fun w => index_rowG (agesF p o at_) i h8 w
            obtain ⟨r1, r2⟩ := agesF_range p o at_ i
            obtain ⟨r3, r4⟩ := dispF_range p o at_ i
            have cs := shift_any (agesF p o at_ i) (-((i : Int) + 1)) (by omega) r2 (by omega) (by omega)
            obtain ⟨r5, r6⟩ := shiftI_range (agesF p o at_ i) (-((i : Int) + 1))
            have ca := add_any (dispF p o at_ i) (shiftI (agesF p o at_ i) (-((i : Int) + 1))) (by omega) r4 (by omega) r6
            have hnx : addI (dispF p o at_ i) (shiftI (agesF p o at_ i) (-((i : Int) + 1))) = dispF p o at_ (i + 1) := rfl
            rw [hnx] at ca
            have hii : (i : Int) < 8 := by omega
            have h0i : (0 : Int) ≤ (i : Int) := by omega
            clear hnx r1 r2 r3 r4 r5 r6
            gi_wp2_with fail
            refine ⟨trivial, (callsIn_wide.2 (cs _)).mono ?_⟩
            rintro e w' ⟨rfl, rfl⟩
            gi_wp2_with fail
            refine ⟨trivial, (callsIn_wide.2 (ca _)).mono ?_⟩
            rintro e w' ⟨rfl, rfl⟩
            gi_wp2_with fail
            go_roundw
            case rel => exact ⟨i + 1, by omega, rfl, rfl, trivial⟩
            case measure => simp [intOf]; omega
          · obtain rfl : i = 8 := by omega
            gi_wp2_with fail
            obtain ⟨hB, hK⟩ := HE.out
            refine ⟨by simp, .inl ⟨_, _, rfl, run_takeDeferred hK, ?_⟩⟩
            rw [HO.out]
            exact ⟨_, results_tmp rfl _ _ _, rfl, hB.trans (belowK_b (w := w) (Nat.le_refl _) wr D _ _ (by omega) hK rfl rfl)⟩
      case stop =>
        rintro D c pre W _ _ h _
        exact h.elim
end Go.Proofs.YtiadaaihlimloaaGreat.W

/- Layer 14's own code, walked: how far offsets are from the best one's. -/
namespace Go.Proofs.YtiadaaihlimloaaGreat.W
open Go.RowKit Go.Shelf Go.Sort
set_option linter.unusedVariables false
set_option linter.unusedSimpArgs false
attribute [local go_sem] Oper.semAt_some
theorem info_gaps : (Tryz.prog.info? 2).map (fun i => (i.zero, i.size, i.bytes)) = some (some (.int .i64 0), 1, 8) := by kernel_rfl
/-- The best one's offset, and the gaps of the others, as they come. -/
def gapW (total : Int) (pre : List Itm) : Int × List Int := pre.foldl (fun s x => if x.1.1 = 0 then (moveI x.1.2 total, s.2) else (s.1, s.2 ++ [subI s.1 (moveI x.1.2 total)])) (0, [])
theorem gapW_snoc (total : Int) (pre : List Itm) (x : Itm) : gapW total (pre ++ [x]) = if x.1.1 = 0 then (moveI x.1.2 total, (gapW total pre).2) else ((gapW total pre).1, (gapW total pre).2 ++ [subI (gapW total pre).1 (moveI x.1.2 total)]) := by
  unfold gapW
  rw [List.foldl_append]
  rfl
theorem gapW_len (total : Int) (pre : List Itm) : (gapW total pre).2.length ≤ pre.length := by
  unfold gapW
  suffices h : ∀ (pre : List Itm) (s : Int × List Int), (pre.foldl (fun s x => if x.1.1 = 0 then (moveI x.1.2 total, s.2) else (s.1, s.2 ++ [subI s.1 (moveI x.1.2 total)])) s).2.length ≤ s.2.length + pre.length by
    have := h pre (0, [])
    simpa using this
  intro pre
  induction pre with
  | nil => intro s; simp
  | cons x pre ih =>
    intro s
    rw [List.foldl_cons]
    refine Nat.le_trans (ih _) ?_
    split
    · rw [List.length_cons]
      dsimp only
      omega
    · rw [List.length_cons, List.length_append, List.length_singleton]
      omega
theorem gapW_range (total : Int) (pre : List Itm) : (-9223372036854775808 ≤ (gapW total pre).1 ∧ (gapW total pre).1 ≤ 9223372036854775807) ∧ InR (gapW total pre).2 := by
  unfold gapW
  suffices h : ∀ (pre : List Itm) (s : Int × List Int), ((-9223372036854775808 ≤ s.1 ∧ s.1 ≤ 9223372036854775807) ∧ InR s.2) → ((-9223372036854775808 ≤ (pre.foldl (fun s x => if x.1.1 = 0 then (moveI x.1.2 total, s.2) else (s.1, s.2 ++ [subI s.1 (moveI x.1.2 total)])) s).1 ∧ (pre.foldl (fun s x => if x.1.1 = 0 then (moveI x.1.2 total, s.2) else (s.1, s.2 ++ [subI s.1 (moveI x.1.2 total)])) s).1 ≤ 9223372036854775807) ∧ InR (pre.foldl (fun s x => if x.1.1 = 0 then (moveI x.1.2 total, s.2) else (s.1, s.2 ++ [subI s.1 (moveI x.1.2 total)])) s).2) by
    exact h pre (0, []) ⟨by omega, fun x hx => by simp at hx⟩
  intro pre
  induction pre with
  | nil => intro s hs; exact hs
  | cons x pre ih =>
    intro s hs
    rw [List.foldl_cons]
    refine ih _ ?_
    split
    · have := subI_range x.1.2.off (subI total x.1.2.total)
      exact ⟨by unfold moveI; omega, hs.2⟩
    · refine ⟨hs.1, fun y hy => ?_⟩
      rcases List.mem_append.1 hy with hy | hy
      · exact hs.2 y hy
      · rw [List.mem_singleton.1 hy]
        have := subI_range s.1 (moveI x.1.2 total)
        omega
/-- All of them have come. -/
theorem gapW_at (total : Int) (f : Fl) : ∀ (n : Nat) (pre : List Itm), pre.length = n → ItPre f pre → 0 < n →
    gapW total pre = (moveI ((ordS f.l).headD Smp.zero) total, ((ordS f.l).take n).tail.map fun x => subI (moveI ((ordS f.l).headD Smp.zero) total) (moveI x total))
  | 0, _, _, _, h => by omega
  | n + 1, l, hn, h, _ => by
    rcases List.eq_nil_or_concat l with rfl | ⟨pre, x, e⟩
    · simp at hn
    rw [List.concat_eq_append] at e
    subst e
    have hl : pre.length = n := by simpa using hn
    have hp : ItPre f pre := fun i y hy => h i y (by rw [List.getElem?_append_left (List.getElem?_eq_some_iff.1 hy).1]; exact hy)
    obtain ⟨h1, h2⟩ := h pre.length x (by simp)
    rw [hl] at h1 h2
    obtain ⟨hlt, he⟩ := List.getElem?_eq_some_iff.1 h2
    rw [gapW_snoc, h1]
    by_cases h0 : n = 0
    · subst h0
      obtain rfl : pre = [] := List.eq_nil_of_length_eq_zero hl
      rw [if_pos rfl]
      have e0 : (ordS f.l).headD Smp.zero = x.1.2 := by
        rw [List.headD_eq_head?_getD, List.head?_eq_getElem?, h2]
        rfl
      rw [e0]
      cases ordS f.l <;> rfl
    · have ih := gapW_at total f n pre hl hp (by omega)
      rw [if_neg h0, ih, List.take_succ_eq_append_getElem hlt, he]
      have ht : ((ordS f.l).take n) ≠ [] := by
        intro e
        have := congrArg List.length e
        rw [List.length_take, List.length_nil] at this
        omega
      rw [List.tail_append_of_ne_nil ht, List.map_append]
      rfl
/-- The root of the gaps. -/
def scatI (f : Fl) (total : Int) : Int := rmsI ((ordS f.l).tail.map fun x => subI (moveI ((ordS f.l).headD Smp.zero) total) (moveI x total))
theorem scat_all (total : Int) (f : Fl) (xs : List Itm) (h : ItAll f xs) : rmsI (gapW total xs).2 = scatI f total := by
  unfold scatI
  by_cases h0 : f.l.length = 0
  · have hx : xs = [] := List.eq_nil_of_length_eq_zero (h.2.trans h0)
    have ho : ordS f.l = [] := List.eq_nil_of_length_eq_zero (by rw [ord_length]; exact h0)
    rw [hx, ho]
    rfl
  · have e := gapW_at total f xs.length xs rfl h.1 (by rw [h.2]; omega)
    rw [e, List.take_of_length_le (by rw [ord_length, h.2]; omega)]
/-- The caller's own: the best offset's cell, the gaps' cell, and the gaps' row. -/
def FrG (A B : Nat) (W : World) (b : Nat) : Prop := b ≠ A ∧ b ≠ B ∧ ∀ g n c, W.cell? ⟨B, 0, none⟩ = some (.slice (some g) n c) → b ≠ g.block
theorem upon_inRound {n : Nat} {P : Program} {o : Oper} {a : Act} {K : Act → World → Prop} {Q : Exit → Act → World → Prop} (l : Nat) (r : Result Next) (h : o.uponIn Fence.wide n P a K Q r) : o.uponIn (Fence.wide.inRound l) n P a K Q r := by
  cases r with
  | ok x w' => cases x <;> exact h
  | halt x w' => cases x <;> exact h
def noDefer (o : Oper) : Bool := match o.op with | .defer _ => false | _ => true
theorem noDefer_at {ops : Array Oper} (hb : ops.all noDefer = true) {i : Nat} {o : Oper} (h : ops[i]? = some o) (c : Call) : o.op ≠ .defer c := by
  obtain ⟨hi, rfl⟩ := Array.getElem?_eq_some_iff.1 h
  have := Array.all_eq_true.1 hb i hi
  intro e
  unfold noDefer at this
  rw [e] at this
  cases this
/-- A region that defers nothing goes in a round as it goes outside. -/
theorem any_inRound {n : Nat} {P : Program} {md : Region.Mode} {ops : Array Oper} {Q : Exit → Act → World → Prop} (l : Nat) (hb : ops.all noDefer = true) :
    ∀ (fuel : Nat) (listed : Array Bool) (a : Act) (w : World), wpAnyIn Fence.wide n P md ops Q fuel listed a w → wpAnyIn (Fence.wide.inRound l) n P md ops Q fuel listed a w
  | 0, _, _, _, h => h
  | fuel + 1, listed, a, w, h => ⟨h.1, fun i hi => by
    have hm := wpOpIn_mono (fun a w => any_inRound l hb fuel _ a w) (h.2 i hi)
    unfold wpOpIn at hm ⊢
    cases e : ops[i]? with
    | none =>
      simp only [e] at hm ⊢
      exact hm
    | some o =>
      simp only [e] at hm ⊢
      by_cases hw : Region.wanted o (yielded ops a.tmps) = true
      · rw [if_pos hw] at hm ⊢
        refine ⟨hm.1, ?_⟩
        have h2 := hm.2
        rw [Oper.semAt_eq _ _ _ (noDefer_at hb e)] at h2 ⊢
        exact upon_inRound l _ h2
      · rw [if_neg hw] at hm ⊢
        exact hm⟩
theorem new_row14 (w : World) (x : Value) (t : TypeId) : ∀ j u, ([x] : List Value)[j]? = some u → ((w.alloc (.cells #[x] t)).drew).cell? ((⟨w.heap.size, 0, none⟩ : Addr).add j) = some u := by
  intro j u hu
  rw [Addr.add_lit, Nat.zero_add]
  match j, hu with
  | 0, hu => simp at hu; subst hu; simp [go_sem]
theorem op_append {F : Fence} {n : Nat} {P : Program} {ops : Array Oper} {o : Oper} {a : Act} {K : Act → World → Prop} {Q : Exit → Act → World → Prop} {w w' : World} {s x : Operand} {t : TypeId} {v v' : Value} {ad : Addr} {m c : Nat}
    (hw : Region.wanted o (yielded ops a.tmps) = true) (ho : o.op = .call { callee := .builtin .append, args := #[s, x], argTypes := #[t, t] }) (hs : a.eval s = v) (hx : a.eval x = .slice (some ad) m c)
    (hrun : (Builtin.append_ #[t, t] o.type #[v, .slice (some ad) m c]).run P w = .ok v' w') (h : K (a.put o.dst v') w') :
    if Region.wanted o (yielded ops a.tmps) = true then Oper.wpIn F n P o a w K Q else (∀ f, o.about P w a.eval = some f → F.fn f) ∧ K (a.put o.dst undef) w := by
  rw [if_pos hw]
  unfold Oper.wpIn
  refine ⟨?_, ?_⟩
  · simp [Oper.about, ho, resolve, Target.leads, Sem.run_pure]
  · rw [Oper.semAt_eq _ _ _ (by rw [ho]; intro c hc'; cases hc')]
    simp only [execOp, ho, resolve, invoke, builtin, Sem.run_bind, Sem.run_pure, Result.andThen_ok, List.map_toArray, List.map_cons, List.map_nil, hs, hx, hrun]
    exact h
theorem frG_far {A B : Nat} {W W' : World} {b : Nat} (h : FrG A B W b) (hb : W'.heap[B]? = W.heap[B]?) : FrG A B W' b :=
  ⟨h.1, h.2.1, fun g n c hc => h.2.2 g n c ((cell_same hb 0).symm.trans hc)⟩
theorem frG_start {A B n : Nat} {w : World} {t : TypeId} (h : w.heap[B]? = some (.cells #[.slice none 0 0] t (0, 0))) (hA : A < n) (hn : n ≠ B) (hw : n ≤ w.heap.size := by omega) : ∀ W2, Below w.heap.size w W2 → ∀ b, b = n ∨ w.heap.size ≤ b → FrG A B W2 b := by
  intro W2 hB b hb
  have hlt := (Array.getElem?_eq_some_iff.1 h).1
  have h2 := (hB.block _ hlt).trans h
  refine ⟨by omega, by omega, fun g m c hc => ?_⟩
  rw [(one_at14 h2).1] at hc
  cases hc
theorem own_or14 {w : World} {base : Nat} {e : TypeId} {size n : Nat} {v : Value} {xs : List Value} (h : w.ownsRow base e size v n xs) {row : Option Nat} (hr : ∀ k, row = some k → ∃ o : Obj, w.heap[k]? = some o ∧ o.isCells = false) : v.ownBlock = none ∨ v.ownBlock ≠ row := by
  rcases h.2 with ⟨rfl, _⟩ | ⟨g, cap, cur, rfl, _, hgb, _⟩
  · exact .inl rfl
  · refine .inr fun e' => ?_
    obtain ⟨o, ho, hc⟩ := hr g (by simpa [Value.ownBlock] using e'.symm)
    rw [hgb] at ho
    cases ho
    cases hc
theorem own_apart14 {w : World} {base b : Nat} {e : TypeId} {size n : Nat} {v : Value} {xs : List Value} (h : w.ownsRow base e size v n xs) (hb : b < base) : v.ownBlock = none ∨ v.ownBlock ≠ some b := by
  rcases h.2 with ⟨rfl, _⟩ | ⟨g, c, cur, rfl, hg, _⟩
  · exact .inl rfl
  · refine .inr fun e' => ?_
    simp only [Value.ownBlock, Option.some.injEq] at e'
    omega
/-- The cells of what has come, and the gaps' row. -/
def GapAt (base A B : Nat) (s : Int × List Int) (W : World) : Prop := ∃ v, W.heap[A]? = some (.cells #[.int .i64 s.1] 2 (0, 0)) ∧ W.heap[B]? = some (.cells #[v] 78 (0, 0)) ∧ W.ownsRow base 2 1 v s.2.length (s.2.map (Value.int .i64))
theorem GapAt.kept {base A B : Nat} {s : Int × List Int} {W W' : World} {row : Option Nat} (h : GapAt base A B s W) (hg : W.grownBy W' row) (hr : ∀ k, row = some k → ∃ o : Obj, W.heap[k]? = some o ∧ o.isCells = false) : GapAt base A B s W' := by
  obtain ⟨v, h1, h2, h3⟩ := h
  exact ⟨v, own_blk14 A (fun _ : Unit => _) _ _ () W W' row h1 hg hr, own_blk14 B (fun _ : Unit => _) _ _ () W W' row h2 hg hr, h3.kept hg (own_or14 h3 hr)⟩
theorem gap_own {β : Type} (base A B : Nat) (s : β → Int × List Int) {n : Nat} : OwnFrom n (fun (b : β) W => GapAt base A B (s b) W) := fun b X Y row h hg hr => h.kept hg (fun k e => (hr k e).2)
/-- What a round leaves that tells a gap. -/
theorem gap_end {w W w5 w6 : World} {total : Int} {pre : List Itm} {x : Itm} {base : Nat} {v : Value} {o : Obj} {g cap : Nat}
    (f0 : w5.heap[w.heap.size + 1 + 1]? = some (.cells #[.int .i64 (gapW total pre).1] 2 (0, 0))) (f1 : w5.heap[w.heap.size + 1 + 1 + 1]? = some (.cells #[v] 78 (0, 0)))
    (row : w5.ownsRow base 2 1 v (gapW total pre).2.length ((gapW total pre).2.map (Value.int .i64))) (k2 : w5.heap[w.heap.size + 1]? = some (.cells #[.int .i64 total] 2 (0, 0)))
    (hB6 : Below w.heap.size w w5) (hB5 : Below W.heap.size W w5) (hb : w.heap.size + 1 + 1 + 1 < base) (hW : base ≤ W.heap.size) (hx : ¬ x.1.1 = 0)
    (own6 : w6.ownsRow base 2 1 (.slice (some ⟨g, 0, none⟩) ((gapW total pre).2.length + 1) cap) ((gapW total pre).2.length + 1) ((gapW total pre).2.map (Value.int .i64) ++ [.int .i64 (subI (gapW total pre).1 (moveI x.1.2 total))]))
    (grow6 : ((w5.alloc o).drew).grownBy w6 v.ownBlock) (hat6 : v.ownBlock = some g ∨ g = w5.heap.size + 1) :
    KeepsFrom base W (w6.setCell ⟨w.heap.size + 1 + 1 + 1, 0, none⟩ (.slice (some ⟨g, 0, none⟩) ((gapW total pre).2.length + 1) cap)) ∧
    KpF (FrG (w.heap.size + 1 + 1) (w.heap.size + 1 + 1 + 1)) W (w6.setCell ⟨w.heap.size + 1 + 1 + 1, 0, none⟩ (.slice (some ⟨g, 0, none⟩) ((gapW total pre).2.length + 1) cap)) ∧
    (GapAt base (w.heap.size + 1 + 1) (w.heap.size + 1 + 1 + 1) (gapW total (pre ++ [x])) (w6.setCell ⟨w.heap.size + 1 + 1 + 1, 0, none⟩ (.slice (some ⟨g, 0, none⟩) ((gapW total pre).2.length + 1) cap)) ∧
      (w6.setCell ⟨w.heap.size + 1 + 1 + 1, 0, none⟩ (.slice (some ⟨g, 0, none⟩) ((gapW total pre).2.length + 1) cap)).heap[w.heap.size + 1]? = some (.cells #[.int .i64 total] 2 (0, 0))) ∧
    (Below w.heap.size w (w6.setCell ⟨w.heap.size + 1 + 1 + 1, 0, none⟩ (.slice (some ⟨g, 0, none⟩) ((gapW total pre).2.length + 1) cap)) ∧ base ≤ (w6.setCell ⟨w.heap.size + 1 + 1 + 1, 0, none⟩ (.slice (some ⟨g, 0, none⟩) ((gapW total pre).2.length + 1) cap)).heap.size) ∧
    w6.heap[w.heap.size + 1 + 1 + 1]? = some (.cells #[v] 78 (0, 0)) := by
  have z5 := hB5.size
  have hne : ∀ k, k < base → some k ≠ v.ownBlock := fun k hk => by
    rcases own_apart14 row hk with h | h
    · rw [h]
      simp
    · exact fun e => h e.symm
  have old : ∀ k, k < w5.heap.size → some k ≠ v.ownBlock → w6.heap[k]? = w5.heap[k]? := fun k hk hn => by
    refine (grow6.block k (by show k < (w5.alloc o).heap.size; rw [World.size_alloc]; omega) hn).trans ?_
    exact Below.heap_alloc w5 o k hk
  have z6 : w5.heap.size ≤ w6.heap.size := by
    have := grow6.size
    have h : (w5.alloc o).heap.size ≤ w6.heap.size := this
    rw [World.size_alloc] at h
    omega
  have hcellrow : ∀ r : Nat, v.ownBlock = some r → ∃ o', w5.heap[r]? = some o' ∧ o'.isCells = true := fun r hr => by
    rcases row.2 with ⟨rfl, _⟩ | ⟨g', c, cur, rfl, _, hgb, _⟩
    · simp [Value.ownBlock] at hr
    · simp only [Value.ownBlock, Option.some.injEq] at hr
      subst hr
      exact ⟨_, hgb, rfl⟩
  have g0 := (old _ (by omega) (hne _ (by omega))).trans f0
  have g1 := (old _ (by omega) (hne _ (by omega))).trans f1
  have g2 := (old _ (by omega) (hne _ (by omega))).trans k2
  refine ⟨?_, ?_, ⟨?_, (block_far _ _ (by omega)).trans g2⟩, ⟨?_, ?_⟩, g1⟩
  · have k1 : KeepsOthers ((w5.alloc o).drew) w6 := KeepsOthers.of_grownBy grow6 (fun r o' hr ho => by
      obtain ⟨o2, h2, hc⟩ := hcellrow r hr
      have hlt := (Array.getElem?_eq_some_iff.1 h2).1
      have : ((w5.alloc o).drew).heap[r]? = w5.heap[r]? := Below.heap_alloc w5 o r hlt
      rw [this, h2] at ho
      cases ho
      exact hc)
    exact ((((keeps_below hB5).trans (KeepsOthers.alloc _ _)).trans (KeepsOthers.drew _)).trans k1 |>.trans (KeepsOthers.setCell _ _ _)).from _
  · rintro b ⟨cs, t, fr, hbk⟩ hfr
    have hlt := (Array.getElem?_eq_some_iff.1 hbk).1
    have hv : some b ≠ v.ownBlock := fun e => by
      rcases row.2 with ⟨rfl, _⟩ | ⟨g', c, cur, rfl, _, _⟩
      · simp [Value.ownBlock] at e
      · simp only [Value.ownBlock, Option.some.injEq] at e
        subst e
        have hc : W.cell? ⟨w.heap.size + 1 + 1 + 1, 0, none⟩ = some (.slice (some ⟨b, 0, none⟩) (gapW total pre).2.length c) := (cell_same (hB5.block _ (by omega)) 0).symm.trans (one_at14 f1).1
        exact hfr.2.2 _ _ _ hc rfl
    refine ⟨(block_far _ _ hfr.2.1).trans ((old b (by omega) hv).trans (hB5.block b hlt)), hfr.1, hfr.2.1, fun a m c hc => ?_⟩
    rw [(one_at14 (block_set 0 _ g1)).1] at hc
    cases hc
    intro e
    rcases hat6 with h | h
    · exact hv (by rw [h]; exact congrArg some e)
    · have e' : b = g := e
      omega
  · rw [gapW_snoc, if_neg hx]
    refine ⟨_, (block_far _ _ (by omega)).trans g0, block_set 0 _ g1, ?_⟩
    have := own6.kept (grownBy_setCell' w6 (w.heap.size + 1 + 1 + 1) (.slice (some ⟨g, 0, none⟩) ((gapW total pre).2.length + 1) cap)) (own_apart14 own6 (by omega))
    simpa using this
  · refine Below.setCell (p := ⟨w.heap.size + 1 + 1 + 1, 0, none⟩) ?_ (by show w.heap.size ≤ w.heap.size + 1 + 1 + 1; omega) _
    refine hB6.trans ⟨grow6.os, grow6.tape, grow6.output, z6, fun k hk => old k (by omega) (hne k (by omega))⟩
  · rw [set_size]
    omega
set_option maxRecDepth 100000 in
set_option maxHeartbeats 12800000 in
theorem fscat_any (f : Fl) (tf : f.Typed) (total : Int) (t0 : -9223372036854775808 ≤ total ∧ total ≤ 9223372036854775807) (w : World) :
    Calls Tryz.prog 22 #[f.val, .int .i64 total] w fun e w' => e = .returned (.int .i64 (scatI f total)) ∧ Below w.heap.size w w' := by
  have c0 := finorder_any f
  obtain ⟨i0, hi0, hz0, hz1, hz2⟩ := info_parts info_gaps
  unfold Fl.val at *
  refine (callsIn_wide (n := 9)).1 ?_
  refine callsIn_of_wp_marks Tryz.func22 rfl trivial ?_ rfl
  simp only [Tryz.ntmps22, List.size_toArray, List.length_cons, List.length_nil, Nat.reduceAdd, Nat.reduceSub, Array.replicate_succ, Array.replicate_zero, List.push_toArray, List.append_toArray, List.nil_append, List.cons_append]
  obtain ⟨wd, hwd⟩ : ∃ wd, (((w.alloc (.cells f.cells 29)).alloc (.cells #[.int .i64 total] 2)).alloc (.cells #[.int .i64 0] 2)).alloc (.cells #[.slice none 0 0] 78) = wd := ⟨_, rfl⟩
  obtain ⟨hf, ht, hg, hs, hB, hz⟩ := four_new _ _ _ _ _ _ _ _ _ _ hwd
  replace hf := rowOf_heap hf
  gi_wp2_with (first | (rw [hwd]) | (refine gi_load_fl rfl _ rfl _ rfl _ (by assumption) ?_))
  clear hwd
  refine ⟨trivial, (callsIn_wide.2 (c0 _)).mono ?_⟩
  rintro e w' ⟨rfl, rfl⟩
  have g1 := (Below.heap_alloc wd (.cells f.cells 29) _ (by omega)).trans ht
  have g2 := (Below.heap_alloc wd (.cells f.cells 29) _ (by omega)).trans hg
  have g3 := (Below.heap_alloc wd (.cells f.cells 29) _ (by omega)).trans hs
  have hr4 := fl_new wd f
  have hB4 := hB.alloc (by omega) (.cells f.cells 29)
  have hz4 := World.size_alloc wd (.cells f.cells 29)
  generalize wd.alloc (.cells f.cells 29) = w4 at *
  rw [hz] at hr4 hz4
  clear hf ht hg hs hB c0
  gi_wp2_with fail
  refine wpIn_rangeFunc_ownH rfl (by omega) (gf := 65) (lb := #[.pointer (some ⟨w.heap.size + 4, 0, none⟩)]) rfl trivial (enters_of Tryz.func65 (by kernel_rfl) rfl)
    (it_stops 8 (by omega) f tf (w.heap.size + 4) (FrG (w.heap.size + 1 + 1) (w.heap.size + 1 + 1 + 1)) w4 hr4 (frG_start g3 (by omega) (by omega))) (fun h k => h.trans k) (fun W l o o' hl hlo ho _ => kpF_put W l o o' hlo ho (fun b h => frG_far h (World.putObj_heap_other (by omega)))) (Below.refl _ _) (fun _ => rfl)
    (fun pre W => (GapAt w4.heap.size (w.heap.size + 1 + 1) (w.heap.size + 1 + 1 + 1) (gapW total pre) W ∧ W.heap[w.heap.size + 1]? = some (.cells #[.int .i64 total] 2 (0, 0))) ∧ (Below w.heap.size w W ∧ w4.heap.size ≤ W.heap.size))
    (fun c pre W => False)
    (OwnFrom.and (OwnFrom.and (gap_own _ _ _ (gapW total)) ((own_blk14 _ _ _ _).from _)) (OwnFrom.and (ownFrom_below (Nat.le_refl _) (by omega)) ((own_lt14 _).from _)))
    (fun c s X Y row h hg hr => h)
    ⟨⟨⟨_, g2, g3, World.ownsRow_nil _ _ _ _⟩, g1⟩, hB4, Nat.le_refl _⟩
    (fun x a' W => ∃ Bx, w4.heap.size ≤ Bx ∧ W.heap[Bx]? = some (.cells (smV x.1.2) 26 (0, 0)) ∧
      a' = { tmps := #[.agg f.cells, .int .i64 total, .pointer (some ⟨w.heap.size, 0, none⟩), .pointer (some ⟨w.heap.size + 1, 0, none⟩), .int .i64 0, .pointer (some ⟨w.heap.size + 1 + 1, 0, none⟩), .pointer (some ⟨w.heap.size + 1 + 1 + 1, 0, none⟩), .int .i64 (x.1.1 : Int), .pointer (some ⟨Bx, 0, none⟩), undef, .agg f.cells, .func (.func 65) #[] #[.pointer (some ⟨w.heap.size + 4, 0, none⟩)], .int .i64 (x.1.1 : Int), x.1.2.val, undef, undef, undef, undef, undef, undef, undef, undef, undef, undef, undef, undef, undef, undef], defers := [] })
    (fun x a' s X Y row h hg hr => by
      obtain ⟨Bx, h1, h2, h3⟩ := h
      exact ⟨Bx, h1, (own_blk14 Bx (fun _ : Unit => smV x.1.2) _ _).from _ () X Y row h2 hg hr, h3⟩)
    ?assign ?body ?done ?stop
  case assign =>
    rintro lp pre x W K ⟨⟨h1, h2⟩, hB, hz⟩ hK
    have hsB := hB.size
    have k1 := h1.kept (World.grownBy_alloc W (.cells (smV x.1.2) 26) none) (fun k e => by cases e)
    have k2 := (Below.heap_alloc W (.cells (smV x.1.2) 26) _ (by omega)).trans h2
    have HK := Lib.hid (And.intro k1 k2)
    clear h1 h2 k1 k2 g1 g2 g3 hr4 hB4
    unfold Smp.val
    gi_wp2_with fail
    exact hK _ _ ((KeepsOthers.alloc _ _).from _) (kpF_alloc W _ (fun b _ h => frG_far h (Below.heap_alloc _ _ _ (by omega)))) ⟨HK.out, hB.alloc hsB _, by rw [World.size_alloc]; omega⟩ ⟨W.heap.size, hz, heap_alloc_new _ _, rfl⟩
  case body =>
    rintro lp pre x a' W hlp ⟨rc, hrc⟩ ⟨⟨h1, h2⟩, hB, hz⟩ ⟨Bx, hBx, hblk, rfl⟩ hlt
    have cmove := smove_any x.1.2 x.2.2 total t0
    obtain ⟨⟨s0, s1, s2, s3, s4⟩, _⟩ := five_at14 hblk
    obtain ⟨q0, _⟩ := one_at14 h2
    have H := Lib.hid (And.intro h1 (And.intro h2 hB))
    have hsn := Lib.hid (gapW_snoc total pre x)
    have hrg := Lib.hid (gapW_range total pre)
    have hln := gapW_len total pre
    have hmr := subI_range x.1.2.off (subI total x.1.2.total)
    change -9223372036854775807 ≤ moveI x.1.2 total ∧ moveI x.1.2 total ≤ 9223372036854775807 at hmr
    clear h1 h2 hB hblk hrc g1 g2 g3 hr4 hB4
    unfold Smp.val at *
    gi_wp2_with fail
    refine ⟨trivial, (CallsIn.inRound lp (callsIn_wide.2 (cmove _))).mono ?_⟩
    rintro e w5 ⟨rfl, hB5⟩
    obtain ⟨h1, h2, hB⟩ := H.out
    have z5 := hB5.size
    have k1 := h1.kept (row := none) ⟨hB5.os, hB5.tape, hB5.output, hB5.size, fun k hk _ => hB5.block k hk⟩ (fun k e => by cases e)
    have k2 := (hB5.block _ (by omega)).trans h2
    have hB6 := hB.trans (hB5.mono (by omega))
    clear s0 s1 s2 s3 s4 q0 cmove H h1 h2
    by_cases hx : x.1.1 = 0
    · have hx' : ((x.1.1 : Int) == 0) = true := by rw [hx]; rfl
      have hsn' := hsn.out
      rw [if_pos hx] at hsn'
      have hsn2 := Lib.hid hsn'
      obtain ⟨v, f0, f1, row⟩ := k1
      obtain ⟨m0, m1⟩ := one_at14 f0
      have HH := Lib.hid (And.intro f0 (And.intro f1 (And.intro row (And.intro k2 (And.intro hB6 hB5)))))
      clear hsn' f0 f1 row k2 hB6 hB5 hsn hB
      gi_wp2_with fail
      obtain ⟨f0, f1, row, k2, hB6, hB5⟩ := HH.out
      refine ⟨((keeps_below hB5).trans (KeepsOthers.setCell _ _ _)).from _, (kpF_below hB5 (fun b _ h => frG_far h (hB5.block _ (by omega)))).trans (kpF_set _ _ _ (fun _ h => h.1) (fun _ h => frG_far h (block_far _ _ (by omega)))), ⟨?_, (block_far _ _ (by omega)).trans k2⟩, hB6.setCell (p := ⟨w.heap.size + 1 + 1, 0, none⟩) (by show w.heap.size ≤ w.heap.size + 1 + 1; omega) _, by rw [set_size]; omega⟩
      rw [hsn2.out]
      exact ⟨v, block_set 0 _ f0, (block_far _ _ (by omega)).trans f1, row.kept (grownBy_setCell' _ (w.heap.size + 1 + 1) _) (own_apart14 row (by omega))⟩
    · have hx' : ((x.1.1 : Int) == 0) = false := beq_false_of_ne (by omega)
      have hsn' := hsn.out
      rw [if_neg hx] at hsn'
      have hsn2 := Lib.hid hsn'
      obtain ⟨v, f0, f1, row⟩ := k1
      obtain ⟨m0, m1⟩ := one_at14 f0
      obtain ⟨n0, n1⟩ := one_at14 f1
      have csub := sub_any (gapW total pre).1 (moveI x.1.2 total) hrg.out.1.1 hrg.out.1.2 (by omega) (by omega)
      have HH := Lib.hid (And.intro f0 (And.intro f1 (And.intro row (And.intro k2 (And.intro hB6 hB5)))))
      clear hsn' f0 f1 row k2 hB6 hB5 hsn hB
      gi_wp2_with fail
      obtain ⟨g, cap, w6, hrun, own6, grow6, hat6, hgl6⟩ := run_append_lies (P := Tryz.prog) (w := (w5.alloc (.cells #[.int .i64 (subI (gapW total pre).1 (moveI x.1.2 total))] 2)).drew) 78 78 w4.heap.size 2 i0 (.int .i64 0) 1 8 Tryz.underlying78 hi0 hz0 hz1 hz2 rfl (by decide) v _ _ (HH.out.2.2.1.alloc _).drew
        ⟨w5.heap.size, 0, none⟩ 1 1 [.int .i64 (subI (gapW total pre).1 (moveI x.1.2 total))] rfl (new_row14 w5 _ _) (by simp [Value.oneCell']) (by decide) (by unfold maxLen; omega) (by omega) (by show w4.heap.size ≤ (w5.alloc _).heap.size; rw [World.size_alloc]; omega) (w5.heap.size + 1) (by show (w5.alloc _).heap.size = _; rw [World.size_alloc])
      have n0' : (w5.alloc (.cells #[.int .i64 (subI (gapW total pre).1 (moveI x.1.2 total))] 2)).cell? ⟨w.heap.size + 1 + 1 + 1, 0, none⟩ = some v := (cell_same (Below.heap_alloc w5 _ _ (by omega)) _).trans n0
      have hfin := gap_end (w := w) (W := W) (w5 := w5) (total := total) (pre := pre) (x := x) (base := w4.heap.size) (o := .cells #[.int .i64 (subI (gapW total pre).1 (moveI x.1.2 total))] 2) HH.out.1 HH.out.2.1 HH.out.2.2.1 HH.out.2.2.2.1 HH.out.2.2.2.2.1 HH.out.2.2.2.2.2 (by omega) (by omega) hx own6 grow6 hat6
      have hend := Lib.hid hfin
      obtain ⟨p0, p1⟩ := one_at14 hfin.2.2.2.2
      clear hfin grow6 hat6 own6
      refine wpIn_region_any (by kernel_rfl) ?_
      refine any_inRound lp (by kernel_rfl) _ _ _ _ ?_
      change wpAnyIn _ _ _ _ _ _ _ _ _ (World.drew _)
      refine wpAnyIn_take (i := 2) (v := .int .i64 (moveI x.1.2 total)) rfl rfl (by kernel_rfl) (by kernel_rfl) (by kernel_rfl) (fun _ _ _ h => h) ⟨Or.inl ⟨by rfl, fun w => by go_simp⟩, fun _ => rfl⟩ ?_
      -- ORDERS
      refine wpAnyIn_ready (rs := [0, 1]) (by kernel_rfl) (by simp) ?_
      refine AllReadyIn.cons rfl (fun K hK => ?_) (AllReadyIn.cons rfl (fun K hK => ?_) AllReadyIn.nil)
      · go_simp
        (refine hK _ _ ?_; clear hK K)
        refine wpAnyIn_ready (rs := [1]) (by kernel_rfl) (by simp) ?_
        refine AllReadyIn.cons rfl (fun K hK => ?_) AllReadyIn.nil
        go_simp
        (refine hK _ _ ?_; clear hK K)
        refine wpAnyIn_ready (rs := [3]) (by kernel_rfl) (by simp) ?_
        refine AllReadyIn.cons rfl (fun K hK => ?_) AllReadyIn.nil
        go_simp
        refine ⟨trivial, (callsIn_wide.2 (csub _)).mono ?_⟩
        rintro e w7 ⟨rfl, rfl⟩
        (refine hK _ _ ?_; clear hK K)
        refine wpAnyIn_ready (rs := [4]) (by kernel_rfl) (by simp) ?_
        refine AllReadyIn.cons rfl (fun K hK => ?_) AllReadyIn.nil
        go_simp
        (refine hK _ _ ?_; clear hK K)
        refine wpAnyIn_ready (rs := [5]) (by kernel_rfl) (by simp) ?_
        refine AllReadyIn.cons rfl (fun K hK => ?_) AllReadyIn.nil
        refine op_append (by rfl) rfl rfl rfl hrun (hK _ _ ?_)
        clear hK K
        refine wpAnyIn_ready (rs := [6]) (by kernel_rfl) (by simp) ?_
        refine AllReadyIn.cons rfl (fun K hK => ?_) AllReadyIn.nil
        go_simp
        (refine hK _ _ ?_; clear hK K)
        refine wpAnyIn_done (by kernel_rfl) ?_ _
        gi_wp2_with fail
        exact ⟨hend.out.1, hend.out.2.1, hend.out.2.2.1, hend.out.2.2.2.1⟩
      · go_simp
        (refine hK _ _ ?_; clear hK K)
        refine wpAnyIn_ready (rs := [0, 3]) (by kernel_rfl) (by simp) ?_
        refine AllReadyIn.cons rfl (fun K hK => ?_) (AllReadyIn.cons rfl (fun K hK => ?_) AllReadyIn.nil)
        · go_simp
          (refine hK _ _ ?_; clear hK K)
          refine wpAnyIn_ready (rs := [3]) (by kernel_rfl) (by simp) ?_
          refine AllReadyIn.cons rfl (fun K hK => ?_) AllReadyIn.nil
          go_simp
          refine ⟨trivial, (callsIn_wide.2 (csub _)).mono ?_⟩
          rintro e w7 ⟨rfl, rfl⟩
          (refine hK _ _ ?_; clear hK K)
          refine wpAnyIn_ready (rs := [4]) (by kernel_rfl) (by simp) ?_
          refine AllReadyIn.cons rfl (fun K hK => ?_) AllReadyIn.nil
          go_simp
          (refine hK _ _ ?_; clear hK K)
          refine wpAnyIn_ready (rs := [5]) (by kernel_rfl) (by simp) ?_
          refine AllReadyIn.cons rfl (fun K hK => ?_) AllReadyIn.nil
          refine op_append (by rfl) rfl rfl rfl hrun (hK _ _ ?_)
          clear hK K
          refine wpAnyIn_ready (rs := [6]) (by kernel_rfl) (by simp) ?_
          refine AllReadyIn.cons rfl (fun K hK => ?_) AllReadyIn.nil
          go_simp
          (refine hK _ _ ?_; clear hK K)
          refine wpAnyIn_done (by kernel_rfl) ?_ _
          gi_wp2_with fail
          exact ⟨hend.out.1, hend.out.2.1, hend.out.2.2.1, hend.out.2.2.2.1⟩
        · go_simp
          refine ⟨trivial, (callsIn_wide.2 (csub _)).mono ?_⟩
          rintro e w7 ⟨rfl, rfl⟩
          (refine hK _ _ ?_; clear hK K)
          refine wpAnyIn_ready (rs := [0, 4]) (by kernel_rfl) (by simp) ?_
          refine AllReadyIn.cons rfl (fun K hK => ?_) (AllReadyIn.cons rfl (fun K hK => ?_) AllReadyIn.nil)
          · go_simp
            (refine hK _ _ ?_; clear hK K)
            refine wpAnyIn_ready (rs := [4]) (by kernel_rfl) (by simp) ?_
            refine AllReadyIn.cons rfl (fun K hK => ?_) AllReadyIn.nil
            go_simp
            (refine hK _ _ ?_; clear hK K)
            refine wpAnyIn_ready (rs := [5]) (by kernel_rfl) (by simp) ?_
            refine AllReadyIn.cons rfl (fun K hK => ?_) AllReadyIn.nil
            refine op_append (by rfl) rfl rfl rfl hrun (hK _ _ ?_)
            clear hK K
            refine wpAnyIn_ready (rs := [6]) (by kernel_rfl) (by simp) ?_
            refine AllReadyIn.cons rfl (fun K hK => ?_) AllReadyIn.nil
            go_simp
            (refine hK _ _ ?_; clear hK K)
            refine wpAnyIn_done (by kernel_rfl) ?_ _
            gi_wp2_with fail
            exact ⟨hend.out.1, hend.out.2.1, hend.out.2.2.1, hend.out.2.2.2.1⟩
          · go_simp
            (refine hK _ _ ?_; clear hK K)
            refine wpAnyIn_ready (rs := [0]) (by kernel_rfl) (by simp) ?_
            refine AllReadyIn.cons rfl (fun K hK => ?_) AllReadyIn.nil
            go_simp
            (refine hK _ _ ?_; clear hK K)
            refine wpAnyIn_ready (rs := [5]) (by kernel_rfl) (by simp) ?_
            refine AllReadyIn.cons rfl (fun K hK => ?_) AllReadyIn.nil
            refine op_append (by rfl) rfl rfl rfl hrun (hK _ _ ?_)
            clear hK K
            refine wpAnyIn_ready (rs := [6]) (by kernel_rfl) (by simp) ?_
            refine AllReadyIn.cons rfl (fun K hK => ?_) AllReadyIn.nil
            go_simp
            (refine hK _ _ ?_; clear hK K)
            refine wpAnyIn_done (by kernel_rfl) ?_ _
            gi_wp2_with fail
            exact ⟨hend.out.1, hend.out.2.1, hend.out.2.2.1, hend.out.2.2.2.1⟩
      -- END
  case done =>
    rintro D xs W hD hS ⟨⟨⟨v, h0, h1, row⟩, h2⟩, hB, hz⟩ hK
    have hs := scat_all total f xs hS
    have hln := gapW_len total xs
    have hl8 := hS.2
    have h8 := tf.many
    obtain ⟨A, c, rfl, hints⟩ := Ints.own row rfl
    have cr := froot_any (gapW total xs).2 A c (gapW_range total xs).2 (by omega) W hints
    rw [hs] at cr
    obtain ⟨n0, n1⟩ := one_at14 h1
    have HE := Lib.hid (And.intro hB hK)
    clear h0 h1 row h2 hB hK hS hs hln hl8 h8 hints g1 g2 g3 hr4 hB4 n1
    gi_wp2_with fail
    refine ⟨trivial, (callsIn_wide.2 cr).mono ?_⟩
    rintro e w7 ⟨rfl, hB7⟩
    gi_wp2_with fail
    obtain ⟨hB, hK⟩ := HE.out
    have hD' := (Array.getElem?_eq_some_iff.1 hK).1
    have hK7 := (hB7.block D hD').trans hK
    have z7 := hB7.size
    refine ⟨by simp, .inl ⟨_, _, rfl, run_takeDeferred hK7, ?_⟩⟩
    exact ⟨_, results_tmp rfl _ _ _, rfl, (hB.trans (hB7.mono (by omega))).trans (belowK_b (w := w) (Nat.le_refl _) w7 D _ _ (by omega) hK7 rfl rfl)⟩
  case stop =>
    rintro D c pre W _ _ h _
    exact h.elim
end Go.Proofs.YtiadaaihlimloaaGreat.W

