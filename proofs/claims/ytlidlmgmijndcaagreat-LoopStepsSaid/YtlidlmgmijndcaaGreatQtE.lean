/- A region that draws its order: most of it reads and calls (a call may make memory); a few operations, whose values hang on where they come up, make memory too; a tail writes. One walk, but for the orders of those few. No program in it. -/
import Derived.Test.YtlidlmgmijndcaaGreatQtB
import Derived.Lib.Hide
namespace Go.Proofs.YtlidlmgmijndcaaGreat.W
open Go.RowKit Go.Sort
set_option linter.unusedVariables false
section
variable {P : Program} {ops : Array Oper} {w0 : World} {Q : Exit → Act → World → Prop}
/-- w' has grown from w (a name of its own: the walk's simp would lay the sizes open). -/
def Grew (w w' : World) : Prop := Below w.heap.size w w'
/-- What has grown from w0. -/
def Gr0 (w0 w : World) : Prop := ∃ p : Regrown, w = grow (redrawn w0 p.d) p.os
theorem Gr0.below {w0 w : World} (h : Gr0 w0 w) : Below w0.heap.size w0 w := by
  obtain ⟨p, rfl⟩ := h
  exact below_regrown w0 p.d p.os
theorem Gr0.grow {w0 w w' : World} (h : Gr0 w0 w) (g : Below w.heap.size w w') : Gr0 w0 w' := regrown_of_below (h.below.trans (g.mono h.below.size))
/-- From every world that has grown it yields v and leaves one that has grown from it. -/
def YieldsG (P : Program) (ops : Array Oper) (w0 : World) (o : Oper) (v : Value) (a : Act) : Prop :=
  (Region.wanted o (yielded ops a.tmps) = true ∧ ∀ w, (∃ p : Regrown, w = Sort.grow (redrawn w0 p.d) p.os) → o.quietAt P a (Grew w) w v) ∨
  (Region.wanted o (yielded ops a.tmps) = false ∧ v = undef)
theorem YieldsG.of_same {o : Oper} {v : Value} {a a' : Act} (hy : YieldsG P ops w0 o v a) (he : execOp a'.eval o = execOp a.eval o) (hw : Region.wanted o (yielded ops a'.tmps) = Region.wanted o (yielded ops a.tmps)) : YieldsG P ops w0 o v a' := by
  rcases hy with ⟨h1, h2⟩ | ⟨h1, h2⟩
  · refine .inl ⟨hw.trans h1, fun w hS => ?_⟩
    have := h2 w hS
    unfold Oper.quietAt at *
    rwa [he]
  · exact .inr ⟨hw.trans h1, h2⟩
theorem YieldsG.wpOp {i : Nat} {o : Oper} {v : Value} {a : Act} {w : World} (hi : ops[i]? = some o) (hy : YieldsG P ops w0 o v a) (hS : Gr0 w0 w) {K : Act → World → Prop} (h : ∀ w', Below w.heap.size w w' → K (a.put o.dst v) w') : wpOp P ops Q i K a w := by
  unfold Go.wpOp
  simp only [hi]
  rcases hy with ⟨hw, hv⟩ | ⟨hw, rfl⟩
  · simp only [hw, if_true]
    left
    have h3 := hv w hS
    unfold Oper.quietAt at h3
    unfold Oper.wp
    generalize (execOp a.eval o).run P w = r at *
    cases r with
    | ok x w' =>
      cases x <;> simp only [Oper.quietUpon] at h3 <;> simp only [Oper.upon]
      case value u =>
        obtain ⟨e1, e2⟩ := h3
        rw [e1, e2]
        exact h _ (Below.refl _ _)
      case skip =>
        obtain ⟨e1, e2⟩ := h3
        rw [e1, ← e2]
        exact h _ (Below.refl _ _)
      case enter f args =>
        obtain ⟨e1, hc⟩ := h3
        rw [e1]
        exact hc.mono fun e w'' ⟨he, hw''⟩ => by subst he; exact h _ hw''
    | halt x w' => simp only [Oper.quietUpon] at h3
  · simp only [hw]
    exact h _ (Below.refl _ _)
theorem wpOp_putG {j : Nat} {oi oj : Oper} {v : Value} (hj : ops[j]? = some oj) (hap : oi.apart ops oj = true)
    (hsi : ∀ cs b, oi.op ≠ .select cs b) (hsj : ∀ cs b, oj.op ≠ .select cs b)
    (hQ : ∀ c a w, Q (.panic c) (a.put oi.dst v) w → Q (.panic c) a w) {K : Act → World → Prop} {a : Act} {w : World}
    (hy : YieldsG P ops w0 oi v a) (h : wpOp P ops Q j K (a.put oi.dst v) w) :
    wpOp P ops Q j (fun a' w' => YieldsG P ops w0 oi v a' ∧ K (a'.put oi.dst v) w') a w := by
  obtain ⟨h1, h2, h3⟩ := Oper.apart_spec hap
  have keep : ∀ (a : Act), YieldsG P ops w0 oi v a → ∀ u, YieldsG P ops w0 oi v (a.put oj.dst u) := fun a hy u =>
    hy.of_same (execOp_put oi hsi a oj.dst u h3) (wanted_put oi a oj.dst u h3)
  have keepD : ∀ d, YieldsG P ops w0 oi v { a with defers := d :: a.defers } := fun d => hy.of_same rfl rfl
  unfold wpOp at *
  simp only [hj] at *
  rw [wanted_put oj a oi.dst v h1] at h
  split
  · rename_i hw
    simp only [hw, if_true] at h
    rcases h with h | ⟨hasks, hlets⟩
    case inr => exact .inr ⟨by unfold Oper.asks at *; rw [execOp_put oj hsj a oi.dst v h1] at hasks; exact hasks, hlets⟩
    refine .inl ?_
    unfold Oper.wp at *
    rw [execOp_put oj hsj a oi.dst v h1] at h
    generalize (execOp a.eval oj).run P w = r at *
    cases r with
    | ok n w' =>
      cases n <;> simp only [Oper.upon] at h ⊢
      case value u => exact ⟨keep a hy u, by rw [← Act.put_comm a v u h2]; exact h⟩
      case skip => exact ⟨keep a hy _, by rw [← Act.put_comm a v undef h2]; exact h⟩
      case defer d =>
        refine ⟨keep _ (keepD d) _, ?_⟩
        rw [← Act.put_comm _ v undef h2, ← Act.put_defers]
        exact h
      case enter f args =>
        refine Calls.mono h fun e w'' he => ?_
        cases e with
        | returned u => exact ⟨keep a hy u, by rw [← Act.put_comm a v u h2]; exact he⟩
        | panicked c => exact hQ _ _ _ he
        | outgrown => exact he
      case row row args => exact Rows.mono h fun u w'' he => ⟨keep a hy u, by rw [← Act.put_comm a v u h2]; exact he⟩
    | halt x w' =>
      cases x <;> simp only [Oper.upon] at h ⊢
      case panic u => exact hQ _ _ _ h
  · rename_i hw
    simp only [hw] at h
    exact ⟨keep a hy _, by rw [← Act.put_comm a v undef h2]; exact h⟩
/-- The head of a region, whatever comes up: f operations of it, each leaving what has grown; between two of them it may grow. -/
def headG (P : Program) (ops : Array Oper) (w0 : World) (Q : Exit → Act → World → Prop) (R : Array Bool → Act → World → Prop) : Nat → Array Bool → Act → World → Prop
  | 0, s, a, w => R s a w
  | f + 1, s, a, w => (∃ i, i ∈ Region.ready .any ops s) ∧ ∀ i, i ∈ Region.ready .any ops s → wpOp P ops Q i (fun a' w' => Gr0 w0 w' ∧ ∀ w'', Below w'.heap.size w' w'' → headG P ops w0 Q R f (s.setIfInBounds i true) a' w'') a w
variable {R : Array Bool → Act → World → Prop}
theorem any_of_headG {g : Nat} (hR : ∀ s a w, R s a w → wpAny P .any ops Q g s a w) (f : Nat) :
    ∀ (s : Array Bool) (a : Act) (w : World), headG P ops w0 Q R f s a w → wpAny P .any ops Q (f + g) s a w := by
  induction f with
  | zero =>
    intro s a w h
    rw [Nat.zero_add]
    exact hR s a w h
  | succ f ih =>
    intro s a w h
    obtain ⟨⟨i0, h0⟩, h1⟩ := h
    rw [Nat.add_right_comm]
    refine ⟨fun e => ?_, fun i hi => wpOp_mono (fun a' w' hk => ih _ a' w' (hk.2 _ (Below.refl _ _))) (h1 i hi)⟩
    rw [e] at h0
    cases h0
theorem headG_first {n i : Nat} {oi : Oper} {v : Value} (hi : ops[i]? = some oi) (hsel : ∀ (j : Nat) (o : Oper) cs b, ops[j]? = some o → o.op ≠ .select cs b)
    (hs : Region.sinkB .any ops n = true) (hc : Region.chainB .any ops n = true) (hn : n < ops.size) (hin : i < n) (hQ : ∀ c a w, Q (.panic c) (a.put oi.dst v) w → Q (.panic c) a w) (hR : ∀ s a w, R s a w → ∀ j, j ∈ Region.ready .any ops s → n ≤ j) (f : Nat) :
    ∀ (s : Array Bool) (a : Act) (w : World), HeadInv .any ops n s →
      (∀ j oj, ops[j]? = some oj → j ≠ i → s.getD j true = false → (∀ e ∈ oj.after, Region.binds .any e = true → e.on ≠ i) → oi.apart ops oj = true) →
      i ∈ Region.ready .any ops s → Gr0 w0 w → YieldsG P ops w0 oi v a → (∀ w', Below w.heap.size w w' → headG P ops w0 Q R f (s.setIfInBounds i true) (a.put oi.dst v) w') → headG P ops w0 Q R (f + 1) s a w := by
  induction f with
  | zero =>
    intro s a w inv _ hr hS hy H
    have low : ∀ j, j ∈ Region.ready .any ops s → j < n := fun j hj => Nat.lt_of_not_le fun hnj => tail_waits hs hc hn inv _ i rfl hin (mem_ready.1 hr).1 j hnj hj
    refine ⟨⟨i, hr⟩, fun j hj => ?_⟩
    by_cases e : j = i
    · rw [e]
      exact hy.wpOp hi hS fun w' g => ⟨hS.grow g, fun w'' g' => H w'' (g.trans (g'.mono g.size))⟩
    · exact absurd (low j hj) (Nat.not_lt.2 (hR _ _ _ (H w (Below.refl _ _)) j (ready_mono hj e)))
  | succ f ih =>
    intro s a w inv free hr hS hy H
    have low : ∀ j, j ∈ Region.ready .any ops s → j < n := fun j hj => Nat.lt_of_not_le fun hnj => tail_waits hs hc hn inv _ i rfl hin (mem_ready.1 hr).1 j hnj hj
    refine ⟨⟨i, hr⟩, fun j hj => ?_⟩
    by_cases e : j = i
    · rw [e]
      exact hy.wpOp hi hS fun w' g => ⟨hS.grow g, fun w'' g' => H w'' (g.trans (g'.mono g.size))⟩
    · obtain ⟨u1, oj, hoj, all⟩ := mem_ready.1 hj
      have noti : ∀ e ∈ oj.after, Region.binds .any e = true → e.on ≠ i := fun e he hb he' => by
        have t := all e he hb
        rw [he', getD_both (mem_ready.1 hr).1] at t
        cases t
      have step := wpOp_putG hoj (free j oj hoj e u1 noti) (fun cs b => hsel i oi cs b hi) (fun cs b => hsel j oj cs b hoj) hQ hy ((H w (Below.refl _ _)).2 j (ready_mono hj e))
      refine wpOp_mono (fun a' w' k => ⟨k.2.1, fun w2 g2 => ?_⟩) step
      refine ih _ a' w2 (inv.set hj (low j hj)) (fun m om hom hm1 hm2 hm3 => free m om hom hm1 ?_ hm3) (ready_mono hr (fun e' => e e'.symm)) (k.2.1.grow g2) k.1 (fun w3 g3 => ?_)
      · by_cases ej : j = m
        · rw [← ej]
          exact u1
        · rwa [getD_set_ne true ej] at hm2
      · rw [Array.setIfInBounds_comm _ _ e]
        exact k.2.2 _ (g2.trans (g3.mono g2.size))
/-- Those that are taken first, one by one. -/
def wpG (P : Program) (ops : Array Oper) (w0 : World) (K : Act → Prop) : List Oper → Act → Prop
  | [], a => K a
  | o :: rest, a => if Region.wanted o (yielded ops a.tmps) = true then ∃ v, (∀ w, (∃ p : Regrown, w = Sort.grow (redrawn w0 p.d) p.os) → o.quietAt P a (Grew w) w v) ∧ wpG P ops w0 K rest (a.put o.dst v) else wpG P ops w0 K rest (a.put o.dst undef)
theorem wpG_nil {K : Act → Prop} {a : Act} (h : K a) : wpG P ops w0 K [] a := h
theorem wpG_step {K : Act → Prop} {a : Act} {o : Oper} {rest : List Oper}
    (h : ∀ K' : Act → Prop, (∀ a, wpG P ops w0 K rest a → K' a) → if Region.wanted o (yielded ops a.tmps) = true then ∃ v, (∀ w, (∃ p : Regrown, w = Sort.grow (redrawn w0 p.d) p.os) → o.quietAt P a (Grew w) w v) ∧ K' (a.put o.dst v) else K' (a.put o.dst undef)) : wpG P ops w0 K (o :: rest) a :=
  h _ (fun _ h => h)
def takesG (ops : Array Oper) (n : Nat) : List Nat → Array Bool → Bool
  | [], _ => true
  | i :: r, s => decide (i < n) && (Region.ready .any ops s).contains i && Region.free .any ops s i && takesG ops n r (s.setIfInBounds i true)
def listG : List Nat → Array Bool → Array Bool
  | [], s => s
  | i :: r, s => listG r (s.setIfInBounds i true)
/-- What a region's head is, as far as its shape goes. -/
structure ShapeG (ops : Array Oper) (n : Nat) (Q : Exit → Act → World → Prop) (R : Array Bool → Act → World → Prop) : Prop where
  sel : Region.noSelect ops = true
  sink : Region.sinkB .any ops n = true
  chain : Region.chainB .any ops n = true
  lt : n < ops.size
  pan : ∀ c a d v w, Q (.panic c) (Act.put a d v) w → Q (.panic c) a w
  base : ∀ s a w, R s a w → ∀ j, j ∈ Region.ready .any ops s → n ≤ j
theorem headG_lex {n g : Nat} {K : Act → Prop} (sh : ShapeG ops n Q R) (L : List Nat) :
    ∀ (s : Array Bool) (a : Act) (w : World), HeadInv .any ops n s → takesG ops n L s = true → Gr0 w0 w → wpG P ops w0 K (L.filterMap fun i => ops[i]?) a → (∀ a' w', K a' → HeadInv .any ops n (listG L s) → Below w.heap.size w w' → Gr0 w0 w' → headG P ops w0 Q R g (listG L s) a' w') → headG P ops w0 Q R (L.length + g) s a w := by
  induction L with
  | nil =>
    intro s a w inv _ hS h hK
    rw [List.length_nil, Nat.zero_add]
    exact hK a w h inv (Below.refl _ _) hS
  | cons i L ih =>
    intro s a w inv hB hS h hK
    simp only [takesG, Bool.and_eq_true, decide_eq_true_eq] at hB
    obtain ⟨⟨⟨hin, hr⟩, hf⟩, hB⟩ := hB
    have hr : i ∈ Region.ready .any ops s := by simpa using hr
    obtain ⟨_, oi, hoi, _⟩ := mem_ready.1 hr
    rw [List.filterMap_cons, hoi] at h
    rw [List.length_cons, Nat.add_right_comm]
    have main : ∀ v, YieldsG P ops w0 oi v a → wpG P ops w0 K (L.filterMap fun i => ops[i]?) (a.put oi.dst v) → headG P ops w0 Q R (L.length + g + 1) s a w := fun v hy hw =>
      headG_first hoi (Region.noSelect_spec sh.sel) sh.sink sh.chain sh.lt hin (fun c a w => sh.pan c a _ _ w) sh.base _ s a w inv (Region.free_spec hoi hf) hr hS hy (fun w' g' => ih _ _ w' (inv.set hr hin) hB (hS.grow g') hw (fun a' w2 k iv g2 s2 => hK a' w2 k iv (g'.trans (g2.mono g'.size)) s2))
    unfold wpG at h
    split at h
    · rename_i hw
      obtain ⟨v, h1, h2⟩ := h
      exact main v (.inl ⟨hw, h1⟩) h2
    · rename_i hw
      exact main undef (.inr ⟨by simpa using hw, rfl⟩) h
/-- One step of those that alone, or one of few, may come up. -/
def OneG (P : Program) (ops : Array Oper) (w0 : World) (Q : Exit → Act → World → Prop) (R : Array Bool → Act → World → Prop) (f : Nat) (s : Array Bool) (a : Act) (w : World) (i : Nat) : Prop := wpOp P ops Q i (fun a' w' => Gr0 w0 w' ∧ ∀ w'', Below w'.heap.size w' w'' → headG P ops w0 Q R f (s.setIfInBounds i true) a' w'') a w
theorem OneG.step {f i : Nat} {o : Oper} {s : Array Bool} {a : Act} {w : World} (ho : ops[i]? = some o)
    (h : ∀ K : Act → World → Prop, (∀ a w, Gr0 w0 w → (∀ w'', Below w.heap.size w w'' → headG P ops w0 Q R f (s.setIfInBounds i true) a w'') → K a w) → if Region.wanted o (yielded ops a.tmps) = true then o.wp P a w K Q else K (a.put o.dst undef) w) : OneG P ops w0 Q R f s a w i := by
  unfold OneG wpOp
  simp only [ho]
  have := h (fun a' w' => Gr0 w0 w' ∧ ∀ w'', Below w'.heap.size w' w'' → headG P ops w0 Q R f (s.setIfInBounds i true) a' w'') (fun a w h1 h2 => ⟨h1, h2⟩)
  split
  · rename_i hw
    rw [if_pos hw] at this
    exact .inl this
  · rename_i hw
    rwa [if_neg hw] at this
theorem headG_one {f i : Nat} {s : Array Bool} {a : Act} {w : World} (hr : Region.ready .any ops s = [i]) (h : OneG P ops w0 Q R f s a w i) : headG P ops w0 Q R (f + 1) s a w := by
  refine ⟨⟨i, by rw [hr]; exact List.mem_singleton_self i⟩, fun j hj => ?_⟩
  rw [hr] at hj
  obtain rfl : j = i := by simpa using hj
  exact h
theorem headG_two {f i k : Nat} {s : Array Bool} {a : Act} {w : World} (hr : Region.ready .any ops s = [i, k]) (h : OneG P ops w0 Q R f s a w i) (h' : OneG P ops w0 Q R f s a w k) : headG P ops w0 Q R (f + 1) s a w := by
  refine ⟨⟨i, by rw [hr]; exact List.mem_cons_self⟩, fun j hj => ?_⟩
  rw [hr] at hj
  rcases List.mem_cons.1 hj with rfl | hj
  · exact h
  · obtain rfl : j = k := by simpa using hj
    exact h'
theorem headG_takes {n g : Nat} (sh : ShapeG ops n Q R) (L : List Nat) (s : Array Bool) (a : Act) (w : World) (inv : HeadInv .any ops n s) (hT : takesG ops n L s = true) (hS : Gr0 w0 w)
    (h : wpG P ops w0 (fun a' => ∀ w', Below w.heap.size w w' → headG P ops w0 Q R g (listG L s) a' w') (L.filterMap fun i => ops[i]?) a) : headG P ops w0 Q R (L.length + g) s a w :=
  headG_lex sh L s a w inv hT hS h (fun a' w' k _ g' _ => k w' g')
def okG (ops : Array Oper) (n : Nat) : List Nat → Array Bool → Bool
  | [], _ => true
  | i :: r, s => decide (i < n) && (Region.ready .any ops s).contains i && okG ops n r (s.setIfInBounds i true)
theorem inv_ok {n : Nat} (L : List Nat) : ∀ s, HeadInv .any ops n s → okG ops n L s = true → HeadInv .any ops n (listG L s) := by
  induction L with
  | nil => intro s h _; exact h
  | cons i L ih =>
    intro s h hB
    simp only [okG, Bool.and_eq_true, decide_eq_true_eq] at hB
    exact ih _ (h.set (by simpa using hB.1.2) hB.1.1) hB.2
end
/-- Goals that agree but for two numbers and a world, walked once. -/
theorem mergeG {T : Nat → Nat → World → Prop} {Q : Prop} (main : Hid (∀ b c W, T b c W) → Q) (pf : ∀ b c W, T b c W) : Q := main (Lib.hid pf)
/-- The tail as the walk's base. -/
def BaseG (P : Program) (l : List Oper) (n : Nat) (Q : Exit → Act → World → Prop) (s : Array Bool) (a : Act) (w : World) : Prop := Region.seqB .any l.toArray (l.toArray.size - n) n s = true ∧ wpList P l.toArray Q (l.drop n) a w
/-- L: those that are taken first; g: how many come behind them ahead of the tail, which begins at n. -/
theorem wp_region_grow {P : Program} {id : Nat} {Q : Exit → Act → World → Prop} {a : Act} {w : World} {l : List Oper} (n g : Nat) (L : List Nat) (hm : P.follows .mixedOrders = true)
    (hB : (Region.noSelect l.toArray && decide (n < l.toArray.size) && Region.sinkB .any l.toArray n && Region.chainB .any l.toArray n && takesG l.toArray n L (Array.replicate l.toArray.size false) && decide (L.length + g = n)) = true)
    (hQ : ∀ c a d v w, Q (.panic c) (Act.put a d v) w → Q (.panic c) a w)
    (h : ShapeG l.toArray n Q (BaseG P l n Q) → wpG P l.toArray w (fun a' => ∀ w', Below w.heap.size w w' → HeadInv .any l.toArray n (listG L (Array.replicate l.toArray.size false)) → headG P l.toArray w Q (BaseG P l n Q) g (listG L (Array.replicate l.toArray.size false)) a' w') (L.filterMap fun i => l.toArray[i]?) a) : (Code.region id l.toArray true).wp P Q a w := by
  simp only [Bool.and_eq_true, decide_eq_true_eq] at hB
  obtain ⟨⟨⟨⟨⟨hsel, hn⟩, hs⟩, hc⟩, hT⟩, hl⟩ := hB
  have hdl : (l.drop n).length = l.toArray.size - n := by simp
  have inv0 : HeadInv .any l.toArray n (Array.replicate l.toArray.size false) :=
    ⟨by simp, fun j oj _ hl => (by rw [getD_replicate_false] at hl; cases hl), fun t _ ht => getD_in (by simpa using ht) (getD_replicate_false _ _)⟩
  have sh : ShapeG l.toArray n Q (BaseG P l n Q) := ⟨hsel, hs, hc, hn, hQ, fun s a w hL => seqB_ready hL.1⟩
  have hS : Gr0 w { w with drawn := w.drawn + 1 } := ⟨⟨w.drawn + 1, #[]⟩, by rw [grow_empty]; rfl⟩
  have H := headG_lex (g := g) sh L _ a _ inv0 hT hS (h sh) (fun a' w' hk iv _ hw => hk w' hw.below iv)
  refine wp_region_any hm ?_
  have F := any_of_headG (g := l.toArray.size - n) (fun s a' w' hL => by
    have hT := hL.2
    have hS := hL.1
    rw [← hdl] at hS ⊢
    exact wpAny_of_seq (l.drop n) n s a' w' (fun j => by simp) hS hT) _ _ _ _ H
  rw [hl, show n + (l.toArray.size - n) = l.toArray.size by omega] at F
  exact F
end Go.Proofs.YtlidlmgmijndcaaGreat.W
