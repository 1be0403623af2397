import Derived.StillTail
import Derived.Deep.Quiet
import Derived.Lib.QuietBelow
/- A region that draws its order: all of it reads and calls quietly but a tail that comes last, one behind the other: one walk in the order of the text. No program in it. -/
namespace Go.Proofs.YtlidlmgmijndcaaGreat.W
open Go.RowKit Go.Sort
set_option linter.unusedVariables false
section
variable {P : Program} {ops : Array Oper} {C : World → Prop}
/-- The head of a region, whatever comes up: f operations of it, then R. -/
def headQ (P : Program) (ops : Array Oper) (C : World → Prop) (n : Nat) (R : Array Bool → Act → Prop) : Nat → Array Bool → Act → Prop
  | 0, s, a => R s a
  | f + 1, s, a => (∃ i, i ∈ Region.ready .any ops s) ∧ ∀ i, i ∈ Region.ready .any ops s → i < n ∧ qOp P ops C i (headQ P ops C n R f (s.setIfInBounds i true)) a
theorem any_of_head {n g : Nat} {R : Array Bool → Act → Prop} {Q : Exit → Act → World → Prop} (hR : ∀ s a w, C w → R s a → wpAny P .any ops Q g s a w) (f : Nat) :
    ∀ (s : Array Bool) (a : Act) (w : World), C w → headQ P ops C n R f s a → wpAny P .any ops Q (f + g) s a w := by
  induction f with
  | zero =>
    intro s a w hw h
    rw [Nat.zero_add]
    exact hR s a w hw h
  | succ f ih =>
    intro s a w hw h
    obtain ⟨⟨i0, h0⟩, h1⟩ := h
    rw [Nat.add_right_comm]
    refine ⟨fun e => ?_, fun i hi => wpOp_of_qOp hw (fun a' w' hw' hk => ih _ a' w' hw' hk) (h1 i hi).2⟩
    rw [e] at h0
    cases h0
/-- What may come first is taken first. -/
theorem head_first {n i : Nat} {oi : Oper} {v : Value} {R : Array Bool → Act → Prop} (hi : ops[i]? = some oi) (hsel : ∀ (j : Nat) (o : Oper) cs b, ops[j]? = some o → o.op ≠ .select cs b)
    (hs : Region.sinkB .any ops n = true) (hc : Region.chainB .any ops n = true) (hn : n < ops.size) (hin : i < n) (hR : ∀ s a, R s a → ∀ j, j ∈ Region.ready .any ops s → n ≤ j) (f : Nat) :
    ∀ (s : Array Bool) (a : Act), HeadInv .any ops n s →
      (∀ j oj, ops[j]? = some oj → j ≠ i → s.getD j true = false → (∀ e ∈ oj.after, Region.binds .any e = true → e.on ≠ i) → oi.apart ops oj = true) →
      i ∈ Region.ready .any ops s → YieldsIn P ops C oi v a → headQ P ops C n R f (s.setIfInBounds i true) (a.put oi.dst v) → headQ P ops C n R (f + 1) s a := by
  induction f with
  | zero =>
    intro s a inv _ hr hy H
    have low : ∀ j, j ∈ Region.ready .any ops s → j < n := fun j hj => Nat.lt_of_not_le fun hnj => tail_waits hs hc hn inv _ i rfl hin (mem_ready.1 hr).1 j hnj hj
    refine ⟨⟨i, hr⟩, fun j hj => ⟨low j hj, ?_⟩⟩
    by_cases e : j = i
    · rw [e]
      exact hy.qOp hi H
    · exact absurd (low j hj) (Nat.not_lt.2 (hR _ _ H j (ready_mono hj e)))
  | succ f ih =>
    intro s a inv free hr hy H
    have low : ∀ j, j ∈ Region.ready .any ops s → j < n := fun j hj => Nat.lt_of_not_le fun hnj => tail_waits hs hc hn inv _ i rfl hin (mem_ready.1 hr).1 j hnj hj
    refine ⟨⟨i, hr⟩, fun j hj => ⟨low j hj, ?_⟩⟩
    by_cases e : j = i
    · rw [e]
      exact hy.qOp hi H
    · obtain ⟨u1, oj, hoj, all⟩ := mem_ready.1 hj
      have noti : ∀ e ∈ oj.after, Region.binds .any e = true → e.on ≠ i := fun e he hb he' => by
        have t := all e he hb
        rw [he', getD_both (mem_ready.1 hr).1] at t
        cases t
      have step := qOp_put hoj (free j oj hoj e u1 noti) (fun cs b => hsel i oi cs b hi) (fun cs b => hsel j oj cs b hoj) hy (H.2 j (ready_mono hj e)).2
      refine qOp_mono (fun a' k => ?_) step
      refine ih _ a' (inv.set hj (low j hj)) (fun m om hom hm1 hm2 hm3 => free m om hom hm1 ?_ hm3) (ready_mono hr (fun e' => e e'.symm)) k.1 ?_
      · by_cases ej : j = m
        · rw [← ej]
          exact u1
        · rwa [getD_set_ne true ej] at hm2
      · rw [Array.setIfInBounds_comm _ _ e]
        exact k.2
theorem head_lex {n g : Nat} {K : Act → Prop} (hsel : Region.noSelect ops = true) (hs : Region.sinkB .any ops n = true) (hc : Region.chainB .any ops n = true) (hn : n < ops.size) (l : List Oper) :
    ∀ (k : Nat) (s : Array Bool) (a : Act), (∀ j, j < l.length → l[j]? = ops[k + j]?) → k + l.length = n → HeadInv .any ops n s →
    Region.lexHead .any ops g l.length k s = true → wpQuiet P ops C K l a → headQ P ops C n (fun s' a' => Region.seqB .any ops g n s' = true ∧ K a') l.length s a := by
  induction l with
  | nil =>
    intro k s a _ hk _ hB h
    obtain rfl : k = n := by simpa using hk
    exact ⟨by simpa [Region.lexHead] using hB, h⟩
  | cons o l ih =>
    intro k s a hl hk inv hB h
    have e0 : ops[k]? = some o := by simpa using (hl 0 (by simp)).symm
    simp only [List.length_cons, Region.lexHead, Bool.and_eq_true] at hB
    have hkn : k < n := by rw [List.length_cons] at hk; omega
    have hr : k ∈ Region.ready .any ops s := by simpa using hB.1.1
    obtain ⟨v, hy, hK⟩ := yieldsIn_of_qOp e0 (show qOp P ops C k (wpQuiet P ops C K l) a by unfold qOp; simp only [e0]; exact h)
    refine head_first e0 (Region.noSelect_spec hsel) hs hc hn hkn (fun s' a' hL => seqB_ready hL.1) l.length s a inv (Region.free_spec e0 hB.1.2) hr hy (ih (k + 1) _ _ (fun j hj => ?_) (by rw [List.length_cons] at hk; omega) (inv.set hr hkn) hB.2 hK)
    have := hl (j + 1) (by simp; omega)
    simpa [Nat.add_assoc, Nat.add_comm 1 j] using this
end
/-- One walk of the order of the text serves every order: the first n operations quiet in the class, the others in their order behind them. -/
theorem wp_region_quiet_tail {P : Program} {C : World → Prop} {id : Nat} {Q : Exit → Act → World → Prop} {a : Act} {w : World} {l : List Oper} (n : Nat) (hm : P.follows .mixedOrders = true) (hB : Region.lexTailB .any l.toArray n = true) (hC : C { w with drawn := w.drawn + 1 })
    (h : wpQuiet P l.toArray C (fun a' => ∀ w', C w' → wpList P l.toArray Q (l.drop n) a' w') (l.take n) a) : (Code.region id l.toArray true).wp P Q a w := by
  simp only [Region.lexTailB, Bool.and_eq_true, decide_eq_true_eq] at hB
  obtain ⟨⟨⟨⟨hsel, hn⟩, hs⟩, hc⟩, hlex⟩ := hB
  have hn' : n < l.length := by simpa using hn
  have htl : (l.take n).length = n := by simp; omega
  have hdl : (l.drop n).length = l.toArray.size - n := by simp
  have inv0 : HeadInv .any l.toArray n (Array.replicate l.toArray.size false) :=
    ⟨by simp, fun j oj _ hl => (by rw [getD_replicate_false] at hl; cases hl), fun t _ ht => getD_in (by simpa using ht) (getD_replicate_false _ _)⟩
  have H := head_lex (g := l.toArray.size - n) hsel hs hc hn (l.take n) 0 _ a (fun j hj => by
    rw [htl] at hj
    simp [hj]) (by simpa using htl) inv0 (by rw [htl]; exact hlex) h
  rw [htl] at H
  refine wp_region_any hm ?_
  have F := any_of_head (C := C) (Q := Q) (g := l.toArray.size - n) (fun s a' w' hw' hL => by
    have hT := hL.2 w' hw'
    have hS := hL.1
    rw [← hdl] at hS ⊢
    exact wpAny_of_seq (l.drop n) n s a' w' (fun j => by simp) hS hT) n _ a _ hC H
  rw [show n + (l.toArray.size - n) = l.toArray.size by omega] at F
  exact F
/-- The same at the class of worlds that have grown. -/
theorem wp_region_below_tail {P : Program} {id : Nat} {Q : Exit → Act → World → Prop} {a : Act} {w : World} {l : List Oper} (n : Nat) (hm : P.follows .mixedOrders = true) (hB : Region.lexTailB .any l.toArray n = true)
    (h : wpQuiet P l.toArray (fun w' => ∃ p : Regrown, w' = grow (redrawn w p.d) p.os) (fun a' => ∀ w', (∃ p : Regrown, w' = grow (redrawn w p.d) p.os) → wpList P l.toArray Q (l.drop n) a' w') (l.take n) a) : (Code.region id l.toArray true).wp P Q a w :=
  wp_region_quiet_tail n hm hB ⟨⟨w.drawn + 1, #[]⟩, by rw [grow_empty]; rfl⟩ h
end Go.Proofs.YtlidlmgmijndcaaGreat.W

/- A region that draws its order: reads and quiet calls, ONE ALLOCATION that waits for nothing (a variable that is declared), and a tail that comes last: one walk in the order of the text; the allocation may come up anywhere. No program in it. -/
namespace Go.Proofs.YtlidlmgmijndcaaGreat.W
open Go.RowKit Go.Sort
set_option linter.unusedVariables false
section
variable {P : Program} {ops : Array Oper} {w0 : World} {m : Nat}
/-- In every world behind w0 the operation yields x, and leaves a world behind that one. -/
def oneR (P : Program) (w0 : World) (o : Oper) (x : Value) (a : Act) : Prop :=
  ∀ p : Regrown, o.quietAt P a (fun w'' => ∃ q : Regrown, w'' = grow (redrawn (grow (redrawn w0 p.d) p.os) q.d) q.os) (grow (redrawn w0 p.d) p.os) x
attribute [go_sem] oneR
/-- The walk in the order of the text. -/
def wpR (P : Program) (ops : Array Oper) (w0 : World) (Q : Act → Prop) : List Oper → Act → Prop
  | [], a => Q a
  | o :: rest, a => if Region.wanted o (yielded ops a.tmps) then ∃ x, oneR P w0 o x a ∧ wpR P ops w0 Q rest (a.put o.dst x) else wpR P ops w0 Q rest (a.put o.dst undef)
theorem wpR_nil {Q : Act → Prop} {a : Act} (h : Q a) : wpR P ops w0 Q [] a := h
theorem wpR_step {Q : Act → Prop} {a : Act} {o : Oper} {rest : List Oper}
    (h : ∀ K : Act → Prop, (∀ a, wpR P ops w0 Q rest a → K a) → if Region.wanted o (yielded ops a.tmps) then ∃ x, oneR P w0 o x a ∧ K (a.put o.dst x) else K (a.put o.dst undef)) : wpR P ops w0 Q (o :: rest) a :=
  h _ (fun _ h => h)
theorem wpR_mono {Q Q' : Act → Prop} (hq : ∀ a, Q a → Q' a) (l : List Oper) : ∀ a, wpR P ops w0 Q l a → wpR P ops w0 Q' l a := by
  induction l with
  | nil => exact fun a h => hq a h
  | cons o l ih =>
    intro a h
    unfold wpR at h ⊢
    split at h
    · rename_i hw
      rw [if_pos hw]
      obtain ⟨x, hx, h⟩ := h
      exact ⟨x, hx, ih _ h⟩
    · rename_i hw
      rw [if_neg hw]
      exact ih _ h
/-- What an operation leaves, wanted or not. -/
def yldR (P : Program) (ops : Array Oper) (w0 : World) (o : Oper) (x : Value) (a : Act) : Prop :=
  (Region.wanted o (yielded ops a.tmps) = true ∧ oneR P w0 o x a) ∨ (Region.wanted o (yielded ops a.tmps) = false ∧ x = undef)
theorem yldR.same {o : Oper} {x : Value} {a a' : Act} (h : yldR P ops w0 o x a) (he : execOp a'.eval o = execOp a.eval o) (hw : Region.wanted o (yielded ops a'.tmps) = Region.wanted o (yielded ops a.tmps)) : yldR P ops w0 o x a' := by
  unfold yldR oneR Oper.quietAt at *
  rw [he, hw]
  exact h
/-- Operation i comes up; the allocation (m) may yield whatever. -/
def comesR (P : Program) (ops : Array Oper) (w0 : World) (m i : Nat) (K : Act → Prop) (a : Act) : Prop :=
  ∃ o, ops[i]? = some o ∧ ((i ≠ m ∧ ∃ x, yldR P ops w0 o x a ∧ K (a.put o.dst x)) ∨ (i = m ∧ ∀ x, K (a.put o.dst x)))
theorem comesR_mono {i : Nat} {K K' : Act → Prop} {a : Act} (hk : ∀ a, K a → K' a) (h : comesR P ops w0 m i K a) : comesR P ops w0 m i K' a := by
  obtain ⟨o, ho, h⟩ := h
  refine ⟨o, ho, ?_⟩
  rcases h with ⟨hi, x, hx, h⟩ | ⟨hi, h⟩
  · exact .inl ⟨hi, x, hx, hk _ h⟩
  · exact .inr ⟨hi, fun x => hk _ (h x)⟩
def headR (P : Program) (ops : Array Oper) (w0 : World) (m n : Nat) (K : Array Bool → Act → Prop) : Nat → Array Bool → Act → Prop
  | 0, s, a => K s a
  | f + 1, s, a => (∃ i, i ∈ Region.ready .any ops s) ∧ ∀ i, i ∈ Region.ready .any ops s → i < n ∧ comesR P ops w0 m i (headR P ops w0 m n K f (s.setIfInBounds i true)) a
/-- Operation j behind operation i, which is apart from it: they may change places. -/
theorem comesR_put {j : Nat} {oi oj : Oper} {v : Value} (hj : ops[j]? = some oj) (hap : oi.apart ops oj = true) (hsi : ∀ cs b, oi.op ≠ .select cs b) (hsj : ∀ cs b, oj.op ≠ .select cs b)
    {K : Act → Prop} {a : Act} (hy : yldR P ops w0 oi v a) (h : comesR P ops w0 m j K (a.put oi.dst v)) :
    comesR P ops w0 m j (fun a' => yldR P ops w0 oi v a' ∧ K (a'.put oi.dst v)) a := by
  obtain ⟨h1, h2, h3⟩ := Oper.apart_spec hap
  have keep : ∀ u, yldR P ops w0 oi v (a.put oj.dst u) := fun u => hy.same (execOp_put oi hsi a oj.dst u h3) (wanted_put oi a oj.dst u h3)
  obtain ⟨o, ho, h⟩ := h
  obtain rfl : oj = o := Option.some.inj (hj.symm.trans ho)
  refine ⟨oj, hj, ?_⟩
  rcases h with ⟨hi, x, hx, h⟩ | ⟨hi, h⟩
  · refine .inl ⟨hi, x, hx.same (execOp_put oj hsj a oi.dst v h1).symm (wanted_put oj a oi.dst v h1).symm, keep x, ?_⟩
    rw [← Act.put_comm a v x h2]
    exact h
  · refine .inr ⟨hi, fun x => ⟨keep x, ?_⟩⟩
    rw [← Act.put_comm a v x h2]
    exact h x
theorem headR_first {n i : Nat} {oi : Oper} {v : Value} {K : Array Bool → Act → Prop} (hi : ops[i]? = some oi) (hsel : ∀ (j : Nat) (o : Oper) cs b, ops[j]? = some o → o.op ≠ .select cs b)
    (hs : Region.sinkB .any ops n = true) (hc : Region.chainB .any ops n = true) (hn : n < ops.size) (hin : i < n) (him : i ≠ m) (hK : ∀ s a, K s a → ∀ j, j ∈ Region.ready .any ops s → n ≤ j) (f : Nat) :
    ∀ (s : Array Bool) (a : Act), HeadInv .any ops n s →
      (∀ j oj, ops[j]? = some oj → j ≠ i → s.getD j true = false → (∀ e ∈ oj.after, Region.binds .any e = true → e.on ≠ i) → oi.apart ops oj = true) →
      i ∈ Region.ready .any ops s → yldR P ops w0 oi v a → headR P ops w0 m n K f (s.setIfInBounds i true) (a.put oi.dst v) → headR P ops w0 m n K (f + 1) s a := by
  induction f with
  | zero =>
    intro s a inv _ hr hy H
    have low : ∀ j, j ∈ Region.ready .any ops s → j < n := fun j hj => Nat.lt_of_not_le fun hnj => tail_waits hs hc hn inv _ i rfl hin (mem_ready.1 hr).1 j hnj hj
    refine ⟨⟨i, hr⟩, fun j hj => ⟨low j hj, ?_⟩⟩
    by_cases e : j = i
    · rw [e]
      exact ⟨oi, hi, .inl ⟨him, v, hy, H⟩⟩
    · exact absurd (low j hj) (Nat.not_lt.2 (hK _ _ H j (ready_mono hj e)))
  | succ f ih =>
    intro s a inv free hr hy H
    have low : ∀ j, j ∈ Region.ready .any ops s → j < n := fun j hj => Nat.lt_of_not_le fun hnj => tail_waits hs hc hn inv _ i rfl hin (mem_ready.1 hr).1 j hnj hj
    refine ⟨⟨i, hr⟩, fun j hj => ⟨low j hj, ?_⟩⟩
    by_cases e : j = i
    · rw [e]
      exact ⟨oi, hi, .inl ⟨him, v, hy, H⟩⟩
    · obtain ⟨u1, oj, hoj, all⟩ := mem_ready.1 hj
      have noti : ∀ e ∈ oj.after, Region.binds .any e = true → e.on ≠ i := fun e he hb he' => by
        have t := all e he hb
        rw [he', getD_both (mem_ready.1 hr).1] at t
        cases t
      have step := comesR_put hoj (free j oj hoj e u1 noti) (fun cs b => hsel i oi cs b hi) (fun cs b => hsel j oj cs b hoj) hy (H.2 j (ready_mono hj e)).2
      refine comesR_mono (fun a' k => ?_) step
      refine ih _ a' (inv.set hj (low j hj)) (fun k' ok hok h1 h2 h3 => free k' ok hok h1 ?_ h3) (ready_mono hr (fun e' => e e'.symm)) k.1 ?_
      · by_cases ej : j = k'
        · rw [← ej]
          exact u1
        · rwa [getD_set_ne true ej] at h2
      · rw [Array.setIfInBounds_comm _ _ e]
        exact k.2
theorem headR_lex {g : Nat} {K : Act → Prop} {om : Oper} (hm : ops[m]? = some om) (hsel : Region.noSelect ops = true) (hs : Region.sinkB .any ops (m + 1) = true) (hc : Region.chainB .any ops (m + 1) = true) (hn : m + 1 < ops.size) (l : List Oper) :
    ∀ (k : Nat) (s : Array Bool) (a : Act), (∀ j, j < l.length → l[j]? = ops[k + j]?) → k + l.length = m → HeadInv .any ops (m + 1) s →
    Region.lexHead .any ops g (l.length + 1) k s = true → wpR P ops w0 (fun a' => ∀ x, K (a'.put om.dst x)) l a → headR P ops w0 m (m + 1) (fun s' a' => Region.seqB .any ops g (m + 1) s' = true ∧ K a') (l.length + 1) s a := by
  induction l with
  | nil =>
    intro k s a _ hk inv hB h
    obtain rfl : k = m := by simpa using hk
    simp only [List.length_nil, Region.lexHead, Bool.and_eq_true] at hB
    have hr : k ∈ Region.ready .any ops s := by simpa using hB.1.1
    have low : ∀ j, j ∈ Region.ready .any ops s → j < k + 1 := fun j hj => Nat.lt_of_not_le fun hnj => tail_waits hs hc hn inv _ k rfl (Nat.lt_succ_self k) (mem_ready.1 hr).1 j hnj hj
    refine ⟨⟨k, hr⟩, fun j hj => ⟨low j hj, ?_⟩⟩
    by_cases e : j = k
    · rw [e]
      exact ⟨om, hm, .inr ⟨rfl, fun x => ⟨by simpa using hB.2, h x⟩⟩⟩
    · have hS : Region.seqB .any ops g (k + 1) (s.setIfInBounds k true) = true := by simpa using hB.2
      exact absurd (seqB_ready hS j (ready_mono hj e)) (Nat.not_le.2 (low j hj))
  | cons o l ih =>
    intro k s a hl hk inv hB h
    have e0 : ops[k]? = some o := by simpa using (hl 0 (by simp)).symm
    rw [List.length_cons] at hB hk ⊢
    rw [Region.lexHead] at hB
    simp only [Bool.and_eq_true] at hB
    have hkn : k < m := by omega
    have hr : k ∈ Region.ready .any ops s := by simpa using hB.1.1
    obtain ⟨v, hy, hK⟩ : ∃ v, yldR P ops w0 o v a ∧ wpR P ops w0 (fun a' => ∀ x, K (a'.put om.dst x)) l (a.put o.dst v) := by
      unfold wpR at h
      split at h
      · rename_i hw
        obtain ⟨x, hx, h⟩ := h
        exact ⟨x, .inl ⟨hw, hx⟩, h⟩
      · rename_i hw
        exact ⟨undef, .inr ⟨by simpa using hw, rfl⟩, h⟩
    refine headR_first e0 (Region.noSelect_spec hsel) hs hc hn (by omega) (by omega) (fun s' a' hL => seqB_ready hL.1) (l.length + 1) s a inv (Region.free_spec e0 hB.1.2) hr hy (ih (k + 1) _ _ (fun j hj => ?_) (by omega) (inv.set hr (by omega)) hB.2 hK)
    have := hl (j + 1) (by simp; omega)
    simpa [Nat.add_assoc, Nat.add_comm 1 j] using this
/-- The allocation's block, once it came up. -/
def Laid1 (w0 : World) (m d : Nat) (ob : Obj) (s : Array Bool) (a : Act) (v : World) : Prop :=
  d < a.tmps.size ∧ (s.getD m false = true → ∃ p, a.eval (.tmp d) = .pointer (some ⟨p, 0, none⟩) ∧ w0.heap.size ≤ p ∧ v.heap[p]? = some ob)
theorem wp_at {o : Oper} {a : Act} {v : World} {x : Value} {D : World → Prop} {K : Act → World → Prop} {Q : Exit → Act → World → Prop} (h : o.quietAt P a D v x) (hD : D v) (hK : ∀ v', D v' → K (a.put o.dst x) v') : o.wp P a v K Q := by
  unfold Oper.quietAt at h
  unfold Oper.wp
  generalize (execOp a.eval o).run P v = r at *
  cases r with
  | halt y w' => simp only [Oper.quietUpon] at h
  | ok n w' =>
    cases n with
    | value u =>
      simp only [Oper.quietUpon] at h
      simp only [Oper.upon]
      rw [h.1, h.2]
      exact hK _ hD
    | skip =>
      simp only [Oper.quietUpon] at h
      simp only [Oper.upon]
      rw [h.1, ← h.2]
      exact hK _ hD
    | enter f args =>
      simp only [Oper.quietUpon] at h
      simp only [Oper.upon]
      rw [h.1]
      exact h.2.mono fun e w'' he => by obtain ⟨rfl, hw⟩ := he; exact hK _ hw
    | _ => simp only [Oper.quietUpon] at h
/-- A call that ends in 'Below', met in a world that is given. -/
theorem again_of {f : FuncId} {args : Array Value} {v : World} {x : Value} (h : Calls P f args v fun e w' => e = .returned x ∧ Below v.heap.size v w') : Calls P f args v fun e w'' => e = .returned x ∧ ∃ q : Regrown, w'' = grow (redrawn v q.d) q.os :=
  h.mono fun _ _ hb => ⟨hb.1, regrown_of_below hb.2⟩
theorem kept {v v' : World} {k : Nat} {c : Obj} (h : v.heap[k]? = some c) (b : Below v.heap.size v v') : v'.heap[k]? = some c := (b.block _ (Array.getElem?_eq_some_iff.1 h).1).trans h
theorem laid {v : World} {k : Nat} {c : Obj} (ob : Obj) (h : v.heap[k]? = some c) : (v.alloc ob).heap[k]? = some c := kept h ((Below.refl _ _).alloc (Nat.le_refl _) ob)
theorem put_size (a : Act) (d : Option Tmp) (v : Value) : (a.put d v).tmps.size = a.tmps.size := by
  cases d with
  | none => rfl
  | some d => simp [Act.put]
theorem put_eval (a : Act) (d : Tmp) (v : Value) (h : d < a.tmps.size) : (a.put (some d) v).eval (.tmp d) = v := by
  simp [Act.put, Act.eval, h]
theorem any_of_headR {n g d : Nat} {om : Oper} {ob : Obj} {K : Array Bool → Act → Prop} {Q : Exit → Act → World → Prop} (hm : ops[m]? = some om) (hd : om.dst = some d) (hg : ∀ y, Region.wanted om y = true)
    (hds : ∀ j oj, ops[j]? = some oj → j < n → j ≠ m → oj.dst ≠ some d)
    (hal : ∀ (a : Act) (v : World) (K : Act → World → Prop), K (a.put om.dst (.pointer (some ⟨v.heap.size, 0, none⟩))) (v.alloc ob) → om.wp P a v K Q)
    (hR : ∀ s a v, m < s.size → Below w0.heap.size w0 v → Laid1 w0 m d ob s a v → K s a → wpAny P .any ops Q g s a v) (f : Nat) :
    ∀ (s : Array Bool) (a : Act) (v : World), m < s.size → Below w0.heap.size w0 v → Laid1 w0 m d ob s a v → headR P ops w0 m n K f s a → wpAny P .any ops Q (f + g) s a v := by
  induction f with
  | zero =>
    intro s a v hms hb hl h
    rw [Nat.zero_add]
    exact hR s a v hms hb hl h
  | succ f ih =>
    intro s a v hms hb hl h
    obtain ⟨⟨i0, h0⟩, h1⟩ := h
    rw [Nat.add_right_comm]
    refine ⟨fun e => (by rw [e] at h0; exact absurd h0 (by simp)), fun i hi => ?_⟩
    obtain ⟨hin, o, ho, h2⟩ := h1 i hi
    unfold wpOp
    simp only [ho]
    rcases h2 with ⟨him, x, hy, hk⟩ | ⟨rfl, hk⟩
    · have fin : ∀ v', Below v.heap.size v v' → wpAny P .any ops Q (f + g) (s.setIfInBounds i true) (a.put o.dst x) v' := fun v' hv => by
        refine ih _ _ v' (by simpa using hms) (hb.trans (hv.mono hb.size)) ⟨by rw [put_size]; exact hl.1, fun hs => ?_⟩ hk
        rw [getD_set_ne false him] at hs
        obtain ⟨p, e1, e2, e3⟩ := hl.2 hs
        refine ⟨p, ?_, e2, (hv.block _ (Array.getElem?_eq_some_iff.1 e3).1).trans e3⟩
        rw [Act.eval_put]
        · exact e1
        · intro d' hd' he
          refine hds i o ho hin him ?_
          rw [hd']
          cases he
          rfl
      rcases hy with ⟨hw, hy⟩ | ⟨hw, rfl⟩
      · rw [if_pos hw]
        left
        obtain ⟨p, rfl⟩ := regrown_of_below hb
        exact wp_at (hy p) ⟨⟨(grow (redrawn w0 p.d) p.os).drawn, #[]⟩, by rw [grow_empty]; rfl⟩ fun v' hv' => fin v' (by
          obtain ⟨q, rfl⟩ := hv'
          exact below_regrown _ q.d q.os)
      · rw [if_neg (by simp [hw])]
        exact fin v (Below.refl _ _)
    · obtain rfl : om = o := Option.some.inj (hm.symm.trans ho)
      rw [if_pos (hg _)]
      left
      refine hal a v _ ?_
      have hA : Below v.heap.size v (v.alloc ob) := (Below.refl _ _).alloc (Nat.le_refl _) _
      refine ih _ _ _ (by simpa using hms) (hb.trans (hA.mono hb.size)) ⟨by rw [put_size]; exact hl.1, fun _ => ⟨v.heap.size, ?_, hb.size, heap_alloc_new v ob⟩⟩ (hk _)
      rw [hd]
      exact put_eval a d _ hl.1
/-- A REGION WITH A VARIABLE: m reads and quiet calls, the variable's allocation, and what comes behind them, one by one. -/
theorem wp_region_var {id : Nat} {Q : Exit → Act → World → Prop} {a : Act} {w : World} {l : List Oper} (m d : Nat) {om : Oper} {ob : Obj} (hf : P.follows .mixedOrders = true) (hB : Region.lexTailB .any l.toArray (m + 1) = true)
    (hm : l.toArray[m]? = some om) (hd : om.dst = some d) (hg : ∀ y, Region.wanted om y = true) (ha : om.after = #[]) (hds : ((l.take m).all fun o => o.dst != some d) = true) (hsz : d < a.tmps.size)
    (hal : ∀ (a : Act) (v : World) (K : Act → World → Prop), K (a.put om.dst (.pointer (some ⟨v.heap.size, 0, none⟩))) (v.alloc ob) → om.wp P a v K Q)
    (h : wpR P l.toArray w (fun a' => d < a'.tmps.size ∧ ∀ p v, w.heap.size ≤ p → v.heap[p]? = some ob → Below w.heap.size w v → wpList P l.toArray Q (l.drop (m + 1)) (a'.put om.dst (.pointer (some ⟨p, 0, none⟩))) v) (l.take m) a) :
    (Code.region id l.toArray true).wp P Q a w := by
  simp only [Region.lexTailB, Bool.and_eq_true, decide_eq_true_eq] at hB
  obtain ⟨⟨⟨⟨hsel, hn⟩, hs⟩, hc⟩, hlex⟩ := hB
  have hn' : m + 1 < l.length := by simpa using hn
  have htl : (l.take m).length = m := by simp; omega
  have hdl : (l.drop (m + 1)).length = l.toArray.size - (m + 1) := by simp
  have inv0 : HeadInv .any l.toArray (m + 1) (Array.replicate l.toArray.size false) :=
    ⟨by simp, fun j oj _ hl => (by rw [getD_replicate_false] at hl; cases hl), fun t _ ht => getD_in (by simpa using ht) (getD_replicate_false _ _)⟩
  have H := headR_lex (P := P) (w0 := w) (g := l.toArray.size - (m + 1)) (K := fun a'' => ∀ p v, a''.eval (.tmp d) = .pointer (some ⟨p, 0, none⟩) → w.heap.size ≤ p → v.heap[p]? = some ob → Below w.heap.size w v → wpList P l.toArray Q (l.drop (m + 1)) a'' v)
    hm hsel hs hc hn (l.take m) 0 _ a (fun j hj => by
      rw [htl] at hj
      simp [hj]) (by simpa using htl) inv0 (by rw [htl]; exact hlex) (wpR_mono (fun a' ha x p v e1 e2 e3 e4 => by
        rw [hd] at e1 ⊢
        rw [put_eval a' d x ha.1] at e1
        subst e1
        have := ha.2 p v e2 e3 e4
        rwa [hd] at this) (l.take m) a h)
  rw [htl] at H
  refine wp_region_any hf ?_
  have F := any_of_headR (P := P) (ops := l.toArray) (w0 := w) (m := m) (n := m + 1) (g := l.toArray.size - (m + 1)) (d := d) (ob := ob) (Q := Q) hm hd hg (fun j oj hj hjn hjm => ?_) hal (fun s a' v hms hb hl hL => ?_) (m + 1) (Array.replicate l.toArray.size false) a _ (by simp; omega) (Below.refl w.heap.size w).drew ⟨hsz, fun hs => by rw [getD_replicate_false] at hs; cases hs⟩ H
  · rw [show m + 1 + (l.toArray.size - (m + 1)) = l.toArray.size by omega] at F
    exact F
  · have hlt : j < m := by omega
    have hj' : (l.take m)[j]? = some oj := by
      rw [List.getElem?_take_of_lt hlt]
      simpa using hj
    have := List.all_eq_true.1 hds oj (List.mem_of_getElem? hj')
    simpa using this
  · obtain ⟨hS, hK⟩ := hL
    have hmt : s.getD m false = true := by
      cases e : s.getD m true with
      | true => simpa [hms] using e
      | false =>
        have hr : m ∈ Region.ready .any l.toArray s := mem_ready.2 ⟨e, om, hm, fun x hx => by rw [ha] at hx; exact absurd hx (by simp)⟩
        have := seqB_ready hS m hr
        omega
    obtain ⟨p, e1, e2, e3⟩ := hl.2 hmt
    have hT := hK p v e1 e2 e3 hb
    rw [← hdl] at hS ⊢
    exact wpAny_of_seq (l.drop (m + 1)) (m + 1) s a' v (fun j => by simp) hS hT
end
end Go.Proofs.YtlidlmgmijndcaaGreat.W

