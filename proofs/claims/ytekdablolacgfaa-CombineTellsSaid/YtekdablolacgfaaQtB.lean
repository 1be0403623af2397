import Derived.StillTail
import Derived.Deep.Quiet
import Derived.Lib.QuietBelow
/- A region that draws its order: all of it reads and calls quietly but a tail that comes last, one behind the other: one walk in the order of the text. No program in it. -/
namespace Go.Proofs.Ytekdablolacgfaa.W
open Go.RowKit Go.Sort
set_option linter.unusedVariables false
section
variable {P : Program} {ops : Array Oper} {C : World → Prop}
/-- The head of a region, whatever comes up: f operations of it, then R. -/
def headQ (P : Program) (ops : Array Oper) (C : World → Prop) (n : Nat) (R : Array Bool → Act → Prop) : Nat → Array Bool → Act → Prop
  | 0, s, a => R s a
  | f + 1, s, a => (∃ i, i ∈ Region.ready .any ops s) ∧ ∀ i, i ∈ Region.ready .any ops s → i < n ∧ qOp P ops C i (headQ P ops C n R f (s.setIfInBounds i true)) a
theorem any_of_head {n g : Nat} {R : Array Bool → Act → Prop} {Q : Exit → Act → World → Prop} (hR : ∀ s a w, C w → R s a → wpAny P .any ops Q g s a w) (f : Nat) :
    ∀ (s : Array Bool) (a : Act) (w : World), C w → headQ P ops C n R f s a → wpAny P .any ops Q (f + g) s a w := by
  induction f with
  | zero =>
    intro s a w hw h
    rw [Nat.zero_add]
    exact hR s a w hw h
  | succ f ih =>
    intro s a w hw h
    obtain ⟨⟨i0, h0⟩, h1⟩ := h
    rw [Nat.add_right_comm]
    refine ⟨fun e => ?_, fun i hi => wpOp_of_qOp hw (fun a' w' hw' hk => ih _ a' w' hw' hk) (h1 i hi).2⟩
    rw [e] at h0
    cases h0
/-- What may come first is taken first. -/
theorem head_first {n i : Nat} {oi : Oper} {v : Value} {R : Array Bool → Act → Prop} (hi : ops[i]? = some oi) (hsel : ∀ (j : Nat) (o : Oper) cs b, ops[j]? = some o → o.op ≠ .select cs b)
    (hs : Region.sinkB .any ops n = true) (hc : Region.chainB .any ops n = true) (hn : n < ops.size) (hin : i < n) (hR : ∀ s a, R s a → ∀ j, j ∈ Region.ready .any ops s → n ≤ j) (f : Nat) :
    ∀ (s : Array Bool) (a : Act), HeadInv .any ops n s →
      (∀ j oj, ops[j]? = some oj → j ≠ i → s.getD j true = false → (∀ e ∈ oj.after, Region.binds .any e = true → e.on ≠ i) → oi.apart ops oj = true) →
      i ∈ Region.ready .any ops s → YieldsIn P ops C oi v a → headQ P ops C n R f (s.setIfInBounds i true) (a.put oi.dst v) → headQ P ops C n R (f + 1) s a := by
  induction f with
  | zero =>
    intro s a inv _ hr hy H
    have low : ∀ j, j ∈ Region.ready .any ops s → j < n := fun j hj => Nat.lt_of_not_le fun hnj => tail_waits hs hc hn inv _ i rfl hin (mem_ready.1 hr).1 j hnj hj
    refine ⟨⟨i, hr⟩, fun j hj => ⟨low j hj, ?_⟩⟩
    by_cases e : j = i
    · rw [e]
      exact hy.qOp hi H
    · exact absurd (low j hj) (Nat.not_lt.2 (hR _ _ H j (ready_mono hj e)))
  | succ f ih =>
    intro s a inv free hr hy H
    have low : ∀ j, j ∈ Region.ready .any ops s → j < n := fun j hj => Nat.lt_of_not_le fun hnj => tail_waits hs hc hn inv _ i rfl hin (mem_ready.1 hr).1 j hnj hj
    refine ⟨⟨i, hr⟩, fun j hj => ⟨low j hj, ?_⟩⟩
    by_cases e : j = i
    · rw [e]
      exact hy.qOp hi H
    · obtain ⟨u1, oj, hoj, all⟩ := mem_ready.1 hj
      have noti : ∀ e ∈ oj.after, Region.binds .any e = true → e.on ≠ i := fun e he hb he' => by
        have t := all e he hb
        rw [he', getD_both (mem_ready.1 hr).1] at t
        cases t
      have step := qOp_put hoj (free j oj hoj e u1 noti) (fun cs b => hsel i oi cs b hi) (fun cs b => hsel j oj cs b hoj) hy (H.2 j (ready_mono hj e)).2
      refine qOp_mono (fun a' k => ?_) step
      refine ih _ a' (inv.set hj (low j hj)) (fun m om hom hm1 hm2 hm3 => free m om hom hm1 ?_ hm3) (ready_mono hr (fun e' => e e'.symm)) k.1 ?_
      · by_cases ej : j = m
        · rw [← ej]
          exact u1
        · rwa [getD_set_ne true ej] at hm2
      · rw [Array.setIfInBounds_comm _ _ e]
        exact k.2
theorem head_lex {n g : Nat} {K : Act → Prop} (hsel : Region.noSelect ops = true) (hs : Region.sinkB .any ops n = true) (hc : Region.chainB .any ops n = true) (hn : n < ops.size) (l : List Oper) :
    ∀ (k : Nat) (s : Array Bool) (a : Act), (∀ j, j < l.length → l[j]? = ops[k + j]?) → k + l.length = n → HeadInv .any ops n s →
    Region.lexHead .any ops g l.length k s = true → wpQuiet P ops C K l a → headQ P ops C n (fun s' a' => Region.seqB .any ops g n s' = true ∧ K a') l.length s a := by
  induction l with
  | nil =>
    intro k s a _ hk _ hB h
    obtain rfl : k = n := by simpa using hk
    exact ⟨by simpa [Region.lexHead] using hB, h⟩
  | cons o l ih =>
    intro k s a hl hk inv hB h
    have e0 : ops[k]? = some o := by simpa using (hl 0 (by simp)).symm
    simp only [List.length_cons, Region.lexHead, Bool.and_eq_true] at hB
    have hkn : k < n := by rw [List.length_cons] at hk; omega
    have hr : k ∈ Region.ready .any ops s := by simpa using hB.1.1
    obtain ⟨v, hy, hK⟩ := yieldsIn_of_qOp e0 (show qOp P ops C k (wpQuiet P ops C K l) a by unfold qOp; simp only [e0]; exact h)
    refine head_first e0 (Region.noSelect_spec hsel) hs hc hn hkn (fun s' a' hL => seqB_ready hL.1) l.length s a inv (Region.free_spec e0 hB.1.2) hr hy (ih (k + 1) _ _ (fun j hj => ?_) (by rw [List.length_cons] at hk; omega) (inv.set hr hkn) hB.2 hK)
    have := hl (j + 1) (by simp; omega)
    simpa [Nat.add_assoc, Nat.add_comm 1 j] using this
end
/-- One walk of the order of the text serves every order: the first n operations quiet in the class, the others in their order behind them. -/
theorem wp_region_quiet_tail {P : Program} {C : World → Prop} {id : Nat} {Q : Exit → Act → World → Prop} {a : Act} {w : World} {l : List Oper} (n : Nat) (hm : P.follows .mixedOrders = true) (hB : Region.lexTailB .any l.toArray n = true) (hC : C { w with drawn := w.drawn + 1 })
    (h : wpQuiet P l.toArray C (fun a' => ∀ w', C w' → wpList P l.toArray Q (l.drop n) a' w') (l.take n) a) : (Code.region id l.toArray true).wp P Q a w := by
  simp only [Region.lexTailB, Bool.and_eq_true, decide_eq_true_eq] at hB
  obtain ⟨⟨⟨⟨hsel, hn⟩, hs⟩, hc⟩, hlex⟩ := hB
  have hn' : n < l.length := by simpa using hn
  have htl : (l.take n).length = n := by simp; omega
  have hdl : (l.drop n).length = l.toArray.size - n := by simp
  have inv0 : HeadInv .any l.toArray n (Array.replicate l.toArray.size false) :=
    ⟨by simp, fun j oj _ hl => (by rw [getD_replicate_false] at hl; cases hl), fun t _ ht => getD_in (by simpa using ht) (getD_replicate_false _ _)⟩
  have H := head_lex (g := l.toArray.size - n) hsel hs hc hn (l.take n) 0 _ a (fun j hj => by
    rw [htl] at hj
    simp [hj]) (by simpa using htl) inv0 (by rw [htl]; exact hlex) h
  rw [htl] at H
  refine wp_region_any hm ?_
  have F := any_of_head (C := C) (Q := Q) (g := l.toArray.size - n) (fun s a' w' hw' hL => by
    have hT := hL.2 w' hw'
    have hS := hL.1
    rw [← hdl] at hS ⊢
    exact wpAny_of_seq (l.drop n) n s a' w' (fun j => by simp) hS hT) n _ a _ hC H
  rw [show n + (l.toArray.size - n) = l.toArray.size by omega] at F
  exact F
/-- The same at the class of worlds that have grown. -/
theorem wp_region_below_tail {P : Program} {id : Nat} {Q : Exit → Act → World → Prop} {a : Act} {w : World} {l : List Oper} (n : Nat) (hm : P.follows .mixedOrders = true) (hB : Region.lexTailB .any l.toArray n = true)
    (h : wpQuiet P l.toArray (fun w' => ∃ p : Regrown, w' = grow (redrawn w p.d) p.os) (fun a' => ∀ w', (∃ p : Regrown, w' = grow (redrawn w p.d) p.os) → wpList P l.toArray Q (l.drop n) a' w') (l.take n) a) : (Code.region id l.toArray true).wp P Q a w :=
  wp_region_quiet_tail n hm hB ⟨⟨w.drawn + 1, #[]⟩, by rw [grow_empty]; rfl⟩ h
end Go.Proofs.Ytekdablolacgfaa.W

/- A region that draws its order: reads and quiet calls, ONE ALLOCATION that waits for nothing (a variable that is declared), and a tail that comes last: one walk in the order of the text; the allocation may come up anywhere. No program in it. -/
namespace Go.Proofs.Ytekdablolacgfaa.W
open Go.RowKit Go.Sort
set_option linter.unusedVariables false
section
variable {P : Program} {ops : Array Oper} {w0 : World} {m : Nat}
/-- In every world behind w0 the operation yields x, and leaves a world behind that one. -/
def oneR (P : Program) (w0 : World) (o : Oper) (x : Value) (a : Act) : Prop :=
  ∀ p : Regrown, o.quietAt P a (fun w'' => ∃ q : Regrown, w'' = grow (redrawn (grow (redrawn w0 p.d) p.os) q.d) q.os) (grow (redrawn w0 p.d) p.os) x
attribute [go_sem] oneR
theorem kept {v v' : World} {k : Nat} {c : Obj} (h : v.heap[k]? = some c) (b : Below v.heap.size v v') : v'.heap[k]? = some c := (b.block _ (Array.getElem?_eq_some_iff.1 h).1).trans h
theorem laid {v : World} {k : Nat} {c : Obj} (ob : Obj) (h : v.heap[k]? = some c) : (v.alloc ob).heap[k]? = some c := kept h ((Below.refl _ _).alloc (Nat.le_refl _) ob)
end
end Go.Proofs.Ytekdablolacgfaa.W

