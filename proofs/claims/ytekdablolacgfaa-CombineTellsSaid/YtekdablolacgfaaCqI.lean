import Derived.Test.YtekdablolacgfaaQtB
import Derived.OrdersIn
import Derived.ControlIn
import Derived.TacticsIn
import Derived.CallsIn
import Derived.Test.YtekdablolacgfaaCqA
import Derived.Test.YtekdablolacgfaaStK
import Derived.Test.YtekdablolacgfaaStF
import Derived.Test.YtekdablolacgfaaFpA
import Derived.Test.YtekdablolacgfaaRows
import Derived.Test.YtekdablolacgfaaChecked
import Derived.Test.YtekdablolacgfaaWdefs
import Derived.Test.YtekdablolacgfaaSlA
import Derived.Test.YtekdablolacgfaaRowS
import Derived.Test.YtekdablolacgfaaRtB
import Derived.Test.YtekdablolacgfaaFixB
import Derived.Test.YtekdablolacgfaaFixC
import Derived.Test.YtekdablolacgfaaFixD
import Derived.Test.YtekdablolacgfaaFixE
import Derived.WalkKit
import Derived.Lib.Hide
import Derived.Laws.CopyOwn
import Derived.Handy
import Derived.Laws.AppendOwn
import Derived.Deep.DeepCutAuto
import Derived.Lib.QuietBelow
import Derived.WalkSpells
import Derived.WalkLawsBesides
import Derived.Laws.Externs
import Derived.Lib.Zigzag
import Derived.BigQuiet
import Derived.Deep.QuietTactic
import Derived.Below
import Derived.Test.YtekdablolacgfaaYdA
import Derived.RangeFuncNested
import Derived.RangeFuncBound
import Derived.RangeFuncCalls
import Derived.RangeFuncLeaves
import Derived.RangeFuncBox
import Derived.OwnWalkIn
import Derived.TacticsInMore
import Derived.LoopNIn
import Derived.LoopIn
import Derived.Test.YtekdablolacgfaaApA
import Derived.Deep.AppendLies
import Derived.Deep.RegionHeld3
/- A region that draws its order, inside a fence: all of it reads and calls quietly but a tail that comes last, one behind the other, and the tail may yield. No program in it. -/
namespace Go.Proofs.Ytekdablolacgfaa.W
open Go.RowKit Go.Sort
set_option linter.unusedVariables false
theorem wpOpIn_of_qOp {m : Nat} {P : Program} {ops : Array Oper} {C : World → Prop} {i : Nat} {a : Act} {K : Act → Prop} {K' : Act → World → Prop} {Q' : Exit → Act → World → Prop} {w : World} (hC : C w) (h : ∀ a w', C w' → K a → K' a w') (hh : qOp P ops C i K a) : wpOpIn Fence.wide m P ops Q' i K' a w := by
  unfold qOp at hh
  unfold wpOpIn
  split
  · rename_i ho
    simp only [ho] at hh
    exact h _ _ hC hh
  · rename_i o ho
    simp only [ho] at hh
    split
    · rename_i hw
      simp only [hw, if_true] at hh
      obtain ⟨v, h1, h2⟩ := hh
      have h3 := h1 w hC
      unfold Oper.quietAt at h3
      unfold Oper.wpIn
      refine ⟨fun _ _ => trivial, ?_⟩
      rw [Fence.wide_round, Oper.semAt_none]
      generalize (execOp a.eval o).run P w = r at *
      cases r with
      | ok x w' =>
        cases x <;> simp only [Oper.quietUpon] at h3 <;> simp only [Oper.uponIn]
        case value u =>
          obtain ⟨e1, e2⟩ := h3
          rw [e1, e2]
          exact h _ _ hC h2
        case skip =>
          obtain ⟨e1, e2⟩ := h3
          rw [e1, ← e2]
          exact h _ _ hC h2
        case enter f args =>
          obtain ⟨e1, hc⟩ := h3
          rw [e1]
          exact ⟨fun h => (by cases h), callsIn_wide.2 (hc.mono fun e w'' ⟨he, hw''⟩ => by subst he; exact h _ _ hw'' h2)⟩
      | halt x w' => simp only [Oper.quietUpon] at h3
    · rename_i hw
      simp only [hw] at hh
      exact ⟨fun _ _ => trivial, h _ _ hC hh⟩
theorem anyIn_of_head {m : Nat} {P : Program} {ops : Array Oper} {C : World → Prop} {n g : Nat} {R : Array Bool → Act → Prop} {Q : Exit → Act → World → Prop} (hR : ∀ s a w, C w → R s a → wpAnyIn Fence.wide m P .any ops Q g s a w) (f : Nat) :
    ∀ (s : Array Bool) (a : Act) (w : World), C w → headQ P ops C n R f s a → wpAnyIn Fence.wide m P .any ops Q (f + g) s a w := by
  induction f with
  | zero =>
    intro s a w hw h
    rw [Nat.zero_add]
    exact hR s a w hw h
  | succ f ih =>
    intro s a w hw h
    obtain ⟨⟨i0, h0⟩, h1⟩ := h
    rw [Nat.add_right_comm]
    refine ⟨fun e => ?_, fun i hi => wpOpIn_of_qOp hw (fun a' w' hw' hk => ih _ a' w' hw' hk) (h1 i hi).2⟩
    rw [e] at h0
    cases h0
theorem wpAnyIn_of_seq {F : Fence} {m : Nat} {P : Program} {ops : Array Oper} {md : Region.Mode} {Q' : Exit → Act → World → Prop} : ∀ (l : List Oper) (k : Nat) (listed : Array Bool) (a : Act) (w : World), (∀ j, l[j]? = ops[k + j]?) →
    Region.seqB md ops l.length k listed = true → wpListIn F m P ops Q' l a w → wpAnyIn F m P md ops Q' l.length listed a w
  | [], _, _, _, _, _, hB, h => ⟨by simpa [Region.seqB] using hB, h⟩
  | o :: l, k, listed, a, w, hl, hB, h => by
    have h0 : ops[k]? = some o := by simpa using (hl 0).symm
    simp only [List.length_cons, Region.seqB, Bool.and_eq_true, decide_eq_true_eq] at hB
    refine ⟨fun h1 => (by rw [hB.1] at h1; cases h1), fun i hi => ?_⟩
    rw [hB.1] at hi
    have hik : i = k := by simpa using hi
    subst hik
    have hw : wpOpIn F m P ops Q' i (wpListIn F m P ops Q' l) a w := by unfold wpOpIn; simp only [h0]; exact h
    exact wpOpIn_mono (fun a' w' h' => wpAnyIn_of_seq l (i + 1) _ a' w' (fun j => by have := hl (j + 1); simpa [Nat.add_assoc, Nat.add_comm 1 j] using this) hB.2 h') hw
theorem anyIn_quiet_tail {m : Nat} {P : Program} {C : World → Prop} {Q : Exit → Act → World → Prop} {a : Act} {w : World} {l : List Oper} (n : Nat) (hB : Region.lexTailB .any l.toArray n = true) (hC : C { w with drawn := w.drawn + 1 })
    (h : wpQuiet P l.toArray C (fun a' => ∀ w', C w' → wpListIn Fence.wide m P l.toArray Q (l.drop n) a' w') (l.take n) a) : wpAnyIn Fence.wide m P .any l.toArray Q l.toArray.size (Array.replicate l.toArray.size false) a { w with drawn := w.drawn + 1 } := by
  simp only [Region.lexTailB, Bool.and_eq_true, decide_eq_true_eq] at hB
  obtain ⟨⟨⟨⟨hsel, hn⟩, hs⟩, hc⟩, hlex⟩ := hB
  have hn' : n < l.length := by simpa using hn
  have htl : (l.take n).length = n := by simp; omega
  have hdl : (l.drop n).length = l.toArray.size - n := by simp
  have inv0 : HeadInv .any l.toArray n (Array.replicate l.toArray.size false) :=
    ⟨by simp, fun j oj _ hl => (by rw [getD_replicate_false] at hl; cases hl), fun t _ ht => getD_in (by simpa using ht) (getD_replicate_false _ _)⟩
  have H := head_lex (g := l.toArray.size - n) hsel hs hc hn (l.take n) 0 _ a (fun j hj => by
    rw [htl] at hj
    simp [hj]) (by simpa using htl) inv0 (by rw [htl]; exact hlex) h
  rw [htl] at H
  have F := anyIn_of_head (m := m) (C := C) (Q := Q) (g := l.toArray.size - n) (fun s a' w' hw' hL => by
    have hT := hL.2 w' hw'
    have hS := hL.1
    rw [← hdl] at hS ⊢
    exact wpAnyIn_of_seq (l.drop n) n s a' w' (fun j => by simp) hS hT) n _ a _ hC H
  rw [show n + (l.toArray.size - n) = l.toArray.size by omega] at F
  exact F
/-- One walk of the order of the text serves every order, outside a round. -/
theorem in_region_below_tail {m : Nat} {P : Program} {id : Nat} {Q : Exit → Act → World → Prop} {a : Act} {w : World} {l : List Oper} (n : Nat) (hm : P.follows .mixedOrders = true) (hB : Region.lexTailB .any l.toArray n = true)
    (h : wpQuiet P l.toArray (fun w' => ∃ p : Regrown, w' = grow (redrawn w p.d) p.os) (fun a' => ∀ w', (∃ p : Regrown, w' = grow (redrawn w p.d) p.os) → wpListIn Fence.wide m P l.toArray Q (l.drop n) a' w') (l.take n) a) : (Code.region id l.toArray true).wpIn Fence.wide m P Q a w :=
  wpIn_region_any hm (anyIn_quiet_tail n hB ⟨⟨w.drawn + 1, #[]⟩, by rw [grow_empty]; rfl⟩ h)
theorem upon_inRoundQ {n : Nat} {P : Program} {o : Oper} {a : Act} {K : Act → World → Prop} {Q : Exit → Act → World → Prop} (l : Nat) (r : Result Next) (h : o.uponIn Fence.wide n P a K Q r) : o.uponIn (Fence.wide.inRound l) n P a K Q r := by
  cases r with
  | ok x w' => cases x <;> exact h
  | halt x w' => cases x <;> exact h
def noDeferQ (o : Oper) : Bool := match o.op with | .defer _ => false | _ => true
theorem noDeferQ_at {ops : Array Oper} (hb : ops.all noDeferQ = true) {i : Nat} {o : Oper} (h : ops[i]? = some o) (c : Call) : o.op ≠ .defer c := by
  obtain ⟨hi, rfl⟩ := Array.getElem?_eq_some_iff.1 h
  have := Array.all_eq_true.1 hb i hi
  intro e
  unfold noDeferQ at this
  rw [e] at this
  cases this
/-- A region that defers nothing goes in a round as it goes outside. -/
theorem any_inRoundQ {n : Nat} {P : Program} {md : Region.Mode} {ops : Array Oper} {Q : Exit → Act → World → Prop} (l : Nat) (hb : ops.all noDeferQ = true) :
    ∀ (fuel : Nat) (listed : Array Bool) (a : Act) (w : World), wpAnyIn Fence.wide n P md ops Q fuel listed a w → wpAnyIn (Fence.wide.inRound l) n P md ops Q fuel listed a w
  | 0, _, _, _, h => h
  | fuel + 1, listed, a, w, h => ⟨h.1, fun i hi => by
    have hm := wpOpIn_mono (fun a w => any_inRoundQ l hb fuel _ a w) (h.2 i hi)
    unfold wpOpIn at hm ⊢
    cases e : ops[i]? with
    | none =>
      simp only [e] at hm ⊢
      exact hm
    | some o =>
      simp only [e] at hm ⊢
      by_cases hw : Region.wanted o (yielded ops a.tmps) = true
      · rw [if_pos hw] at hm ⊢
        refine ⟨hm.1, ?_⟩
        have h2 := hm.2
        rw [Oper.semAt_eq _ _ _ (noDeferQ_at hb e)] at h2 ⊢
        exact upon_inRoundQ l _ h2
      · rw [if_neg hw] at hm ⊢
        exact hm⟩
/-- The same in a round: the tail is walked outside it. -/
theorem in_region_below_tail_round {m : Nat} {P : Program} {id lp : Nat} {Q : Exit → Act → World → Prop} {a : Act} {w : World} {l : List Oper} (n : Nat) (hm : P.follows .mixedOrders = true) (hd : l.toArray.all noDeferQ = true) (hB : Region.lexTailB .any l.toArray n = true)
    (h : wpQuiet P l.toArray (fun w' => ∃ p : Regrown, w' = grow (redrawn w p.d) p.os) (fun a' => ∀ w', (∃ p : Regrown, w' = grow (redrawn w p.d) p.os) → wpListIn Fence.wide m P l.toArray Q (l.drop n) a' w') (l.take n) a) : (Code.region id l.toArray true).wpIn (Fence.wide.inRound lp) m P Q a w :=
  wpIn_region_any hm (any_inRoundQ lp hd _ _ _ _ (anyIn_quiet_tail n hB ⟨⟨w.drawn + 1, #[]⟩, by rw [grow_empty]; rfl⟩ h))
end Go.Proofs.Ytekdablolacgfaa.W

/- A region that draws its order: most of it reads and calls and leaves the world alone; a few operations, one behind the other, make memory on the way (a slice of arguments and the call that reads it); a tail writes. One walk. No program in it. -/
namespace Go.Proofs.Ytekdablolacgfaa.W
open Go.RowKit Go.Sort
set_option linter.unusedVariables false
section
variable {P : Program} {ops : Array Oper} {S : World → Prop} {Q : Exit → Act → World → Prop}
/-- In every world of the class it yields v and leaves that world as it is. -/
def YieldsS (P : Program) (ops : Array Oper) (S : World → Prop) (o : Oper) (v : Value) (a : Act) : Prop :=
  (Region.wanted o (yielded ops a.tmps) = true ∧ ∀ w, S w → o.quietAt P a (fun w' => w' = w) w v) ∨
  (Region.wanted o (yielded ops a.tmps) = false ∧ v = undef)
theorem YieldsS.of_same {o : Oper} {v : Value} {a a' : Act} (hy : YieldsS P ops S o v a) (he : execOp a'.eval o = execOp a.eval o) (hw : Region.wanted o (yielded ops a'.tmps) = Region.wanted o (yielded ops a.tmps)) : YieldsS P ops S o v a' := by
  rcases hy with ⟨h1, h2⟩ | ⟨h1, h2⟩
  · refine .inl ⟨hw.trans h1, fun w hS => ?_⟩
    have := h2 w hS
    unfold Oper.quietAt at *
    rwa [he]
  · exact .inr ⟨hw.trans h1, h2⟩
theorem YieldsS.wpOp {i : Nat} {o : Oper} {v : Value} {a : Act} {w : World} (hi : ops[i]? = some o) (hy : YieldsS P ops S o v a) (hS : S w) {K : Act → World → Prop} (h : K (a.put o.dst v) w) : wpOp P ops Q i K a w := by
  unfold Go.wpOp
  simp only [hi]
  rcases hy with ⟨hw, hv⟩ | ⟨hw, rfl⟩
  · simp only [hw, if_true]
    refine .inl (Oper.wp_of_quiet (C := fun w1 => w1 = w) (K := fun a' => K a' w) rfl (fun a' w' e k => by rw [e]; exact k) ⟨v, fun w1 e => ?_, h⟩)
    rw [e]
    exact hv w hS
  · simp only [hw]
    exact h
theorem wpOp_putS {j : Nat} {oi oj : Oper} {v : Value} (hj : ops[j]? = some oj) (hap : oi.apart ops oj = true)
    (hsi : ∀ cs b, oi.op ≠ .select cs b) (hsj : ∀ cs b, oj.op ≠ .select cs b)
    (hQ : ∀ c a w, Q (.panic c) (a.put oi.dst v) w → Q (.panic c) a w) {K : Act → World → Prop} {a : Act} {w : World}
    (hy : YieldsS P ops S oi v a) (h : wpOp P ops Q j K (a.put oi.dst v) w) :
    wpOp P ops Q j (fun a' w' => YieldsS P ops S oi v a' ∧ K (a'.put oi.dst v) w') a w := by
  obtain ⟨h1, h2, h3⟩ := Oper.apart_spec hap
  have keep : ∀ (a : Act), YieldsS P ops S oi v a → ∀ u, YieldsS P ops S oi v (a.put oj.dst u) := fun a hy u =>
    hy.of_same (execOp_put oi hsi a oj.dst u h3) (wanted_put oi a oj.dst u h3)
  have keepD : ∀ d, YieldsS P ops S oi v { a with defers := d :: a.defers } := fun d => hy.of_same rfl rfl
  unfold wpOp at *
  simp only [hj] at *
  rw [wanted_put oj a oi.dst v h1] at h
  split
  · rename_i hw
    simp only [hw, if_true] at h
    rcases h with h | ⟨hasks, hlets⟩
    case inr => exact .inr ⟨by unfold Oper.asks at *; rw [execOp_put oj hsj a oi.dst v h1] at hasks; exact hasks, hlets⟩
    refine .inl ?_
    unfold Oper.wp at *
    rw [execOp_put oj hsj a oi.dst v h1] at h
    generalize (execOp a.eval oj).run P w = r at *
    cases r with
    | ok n w' =>
      cases n <;> simp only [Oper.upon] at h ⊢
      case value u => exact ⟨keep a hy u, by rw [← Act.put_comm a v u h2]; exact h⟩
      case skip => exact ⟨keep a hy _, by rw [← Act.put_comm a v undef h2]; exact h⟩
      case defer d =>
        refine ⟨keep _ (keepD d) _, ?_⟩
        rw [← Act.put_comm _ v undef h2, ← Act.put_defers]
        exact h
      case enter f args =>
        refine Calls.mono h fun e w'' he => ?_
        cases e with
        | returned u => exact ⟨keep a hy u, by rw [← Act.put_comm a v u h2]; exact he⟩
        | panicked c => exact hQ _ _ _ he
        | outgrown => exact he
      case row row args => exact Rows.mono h fun u w'' he => ⟨keep a hy u, by rw [← Act.put_comm a v u h2]; exact he⟩
    | halt x w' =>
      cases x <;> simp only [Oper.upon] at h ⊢
      case panic u => exact hQ _ _ _ h
  · rename_i hw
    simp only [hw] at h
    exact ⟨keep a hy _, by rw [← Act.put_comm a v undef h2]; exact h⟩
/-- The head of a region, whatever comes up: f operations of it, each leaving a world of the class, then R. -/
def headS (P : Program) (ops : Array Oper) (S : World → Prop) (Q : Exit → Act → World → Prop) (R : Array Bool → Act → World → Prop) : Nat → Array Bool → Act → World → Prop
  | 0, s, a, w => R s a w
  | f + 1, s, a, w => (∃ i, i ∈ Region.ready .any ops s) ∧ ∀ i, i ∈ Region.ready .any ops s → wpOp P ops Q i (fun a' w' => S w' ∧ headS P ops S Q R f (s.setIfInBounds i true) a' w') a w
variable {R : Array Bool → Act → World → Prop}
theorem any_of_headS {g : Nat} (hR : ∀ s a w, R s a w → wpAny P .any ops Q g s a w) (f : Nat) :
    ∀ (s : Array Bool) (a : Act) (w : World), headS P ops S Q R f s a w → wpAny P .any ops Q (f + g) s a w := by
  induction f with
  | zero =>
    intro s a w h
    rw [Nat.zero_add]
    exact hR s a w h
  | succ f ih =>
    intro s a w h
    obtain ⟨⟨i0, h0⟩, h1⟩ := h
    rw [Nat.add_right_comm]
    refine ⟨fun e => ?_, fun i hi => wpOp_mono (fun a' w' hk => ih _ a' w' hk.2) (h1 i hi)⟩
    rw [e] at h0
    cases h0
theorem headS_first {n i : Nat} {oi : Oper} {v : Value} (hi : ops[i]? = some oi) (hsel : ∀ (j : Nat) (o : Oper) cs b, ops[j]? = some o → o.op ≠ .select cs b)
    (hs : Region.sinkB .any ops n = true) (hc : Region.chainB .any ops n = true) (hn : n < ops.size) (hin : i < n) (hQ : ∀ c a w, Q (.panic c) (a.put oi.dst v) w → Q (.panic c) a w) (hR : ∀ s a w, R s a w → ∀ j, j ∈ Region.ready .any ops s → n ≤ j) (f : Nat) :
    ∀ (s : Array Bool) (a : Act) (w : World), HeadInv .any ops n s →
      (∀ j oj, ops[j]? = some oj → j ≠ i → s.getD j true = false → (∀ e ∈ oj.after, Region.binds .any e = true → e.on ≠ i) → oi.apart ops oj = true) →
      i ∈ Region.ready .any ops s → S w → YieldsS P ops S oi v a → headS P ops S Q R f (s.setIfInBounds i true) (a.put oi.dst v) w → headS P ops S Q R (f + 1) s a w := by
  induction f with
  | zero =>
    intro s a w inv _ hr hS hy H
    have low : ∀ j, j ∈ Region.ready .any ops s → j < n := fun j hj => Nat.lt_of_not_le fun hnj => tail_waits hs hc hn inv _ i rfl hin (mem_ready.1 hr).1 j hnj hj
    refine ⟨⟨i, hr⟩, fun j hj => ?_⟩
    by_cases e : j = i
    · rw [e]
      exact hy.wpOp hi hS ⟨hS, H⟩
    · exact absurd (low j hj) (Nat.not_lt.2 (hR _ _ _ H j (ready_mono hj e)))
  | succ f ih =>
    intro s a w inv free hr hS hy H
    have low : ∀ j, j ∈ Region.ready .any ops s → j < n := fun j hj => Nat.lt_of_not_le fun hnj => tail_waits hs hc hn inv _ i rfl hin (mem_ready.1 hr).1 j hnj hj
    refine ⟨⟨i, hr⟩, fun j hj => ?_⟩
    by_cases e : j = i
    · rw [e]
      exact hy.wpOp hi hS ⟨hS, H⟩
    · obtain ⟨u1, oj, hoj, all⟩ := mem_ready.1 hj
      have noti : ∀ e ∈ oj.after, Region.binds .any e = true → e.on ≠ i := fun e he hb he' => by
        have t := all e he hb
        rw [he', getD_both (mem_ready.1 hr).1] at t
        cases t
      have step := wpOp_putS hoj (free j oj hoj e u1 noti) (fun cs b => hsel i oi cs b hi) (fun cs b => hsel j oj cs b hoj) hQ hy (H.2 j (ready_mono hj e))
      refine wpOp_mono (fun a' w' k => ⟨k.2.1, ?_⟩) step
      refine ih _ a' w' (inv.set hj (low j hj)) (fun m om hom hm1 hm2 hm3 => free m om hom hm1 ?_ hm3) (ready_mono hr (fun e' => e e'.symm)) k.2.1 k.1 ?_
      · by_cases ej : j = m
        · rw [← ej]
          exact u1
        · rwa [getD_set_ne true ej] at hm2
      · rw [Array.setIfInBounds_comm _ _ e]
        exact k.2.2
/-- Those that are taken first, one by one. -/
def wpS (P : Program) (ops : Array Oper) (S : World → Prop) (K : Act → Prop) : List Oper → Act → Prop
  | [], a => K a
  | o :: rest, a => if Region.wanted o (yielded ops a.tmps) = true then ∃ v, (∀ w, S w → o.quietAt P a (fun w' => w' = w) w v) ∧ wpS P ops S K rest (a.put o.dst v) else wpS P ops S K rest (a.put o.dst undef)
theorem wpS_nil {K : Act → Prop} {a : Act} (h : K a) : wpS P ops S K [] a := h
theorem wpS_step {K : Act → Prop} {a : Act} {o : Oper} {rest : List Oper}
    (h : ∀ K' : Act → Prop, (∀ a, wpS P ops S K rest a → K' a) → if Region.wanted o (yielded ops a.tmps) = true then ∃ v, (∀ w, S w → o.quietAt P a (fun w' => w' = w) w v) ∧ K' (a.put o.dst v) else K' (a.put o.dst undef)) : wpS P ops S K (o :: rest) a :=
  h _ (fun _ h => h)
def takesB (ops : Array Oper) (n : Nat) : List Nat → Array Bool → Bool
  | [], _ => true
  | i :: r, s => decide (i < n) && (Region.ready .any ops s).contains i && Region.free .any ops s i && takesB ops n r (s.setIfInBounds i true)
def listS : List Nat → Array Bool → Array Bool
  | [], s => s
  | i :: r, s => listS r (s.setIfInBounds i true)
theorem headS_lex {n g : Nat} {K : Act → Prop} (hsel : Region.noSelect ops = true) (hs : Region.sinkB .any ops n = true) (hc : Region.chainB .any ops n = true) (hn : n < ops.size) (hQ : ∀ c a d v w, Q (.panic c) (Act.put a d v) w → Q (.panic c) a w) (hR : ∀ s a w, R s a w → ∀ j, j ∈ Region.ready .any ops s → n ≤ j) (L : List Nat) :
    ∀ (s : Array Bool) (a : Act) (w : World), HeadInv .any ops n s → takesB ops n L s = true → S w → wpS P ops S K (L.filterMap fun i => ops[i]?) a → (∀ a' w', K a' → S w' → headS P ops S Q R g (listS L s) a' w') → headS P ops S Q R (L.length + g) s a w := by
  induction L with
  | nil =>
    intro s a w _ _ hS h hK
    rw [List.length_nil, Nat.zero_add]
    exact hK a w h hS
  | cons i L ih =>
    intro s a w inv hB hS h hK
    simp only [takesB, Bool.and_eq_true, decide_eq_true_eq] at hB
    obtain ⟨⟨⟨hin, hr⟩, hf⟩, hB⟩ := hB
    have hr : i ∈ Region.ready .any ops s := by simpa using hr
    obtain ⟨_, oi, hoi, _⟩ := mem_ready.1 hr
    rw [List.filterMap_cons, hoi] at h
    rw [List.length_cons, Nat.add_right_comm]
    have main : ∀ v, YieldsS P ops S oi v a → wpS P ops S K (L.filterMap fun i => ops[i]?) (a.put oi.dst v) → headS P ops S Q R (L.length + g + 1) s a w := fun v hy hw =>
      headS_first hoi (Region.noSelect_spec hsel) hs hc hn hin (fun c a w => hQ c a _ _ w) hR _ s a w inv (Region.free_spec hoi hf) hr hS hy (ih _ _ w (inv.set hr hin) hB hS hw hK)
    unfold wpS at h
    split at h
    · rename_i hw
      obtain ⟨v, h1, h2⟩ := h
      exact main v (.inl ⟨hw, h1⟩) h2
    · rename_i hw
      exact main undef (.inr ⟨by simpa using hw, rfl⟩) h
/-- One that alone may come up. -/
theorem headS_only {i f : Nat} {o : Oper} {s : Array Bool} {a : Act} {w : World} (hr : Region.ready .any ops s = [i]) (ho : ops[i]? = some o)
    (h : ∀ K : Act → World → Prop, (∀ a w, S w → headS P ops S Q R f (s.setIfInBounds i true) a w → K a w) → if Region.wanted o (yielded ops a.tmps) = true then o.wp P a w K Q else K (a.put o.dst undef) w) : headS P ops S Q R (f + 1) s a w := by
  refine ⟨⟨i, by rw [hr]; exact List.mem_singleton_self i⟩, fun j hj => ?_⟩
  rw [hr] at hj
  obtain rfl : j = i := by simpa using hj
  unfold wpOp
  simp only [ho]
  have := h (fun a' w' => S w' ∧ headS P ops S Q R f (s.setIfInBounds j true) a' w') (fun a w h1 h2 => ⟨h1, h2⟩)
  split
  · rename_i hw
    rw [if_pos hw] at this
    exact .inl this
  · rename_i hw
    rwa [if_neg hw] at this
end
/-- L: those that are taken first; g: how many come behind them, one by one, ahead of the tail, which begins at n. -/
theorem wp_region_pick {P : Program} {S : World → Prop} {id : Nat} {Q : Exit → Act → World → Prop} {a : Act} {w : World} {l : List Oper} (n g : Nat) (L : List Nat) (hm : P.follows .mixedOrders = true)
    (hB : (Region.noSelect l.toArray && decide (n < l.toArray.size) && Region.sinkB .any l.toArray n && Region.chainB .any l.toArray n && takesB l.toArray n L (Array.replicate l.toArray.size false) && decide (L.length + g = n)) = true)
    (hQ : ∀ c a d v w, Q (.panic c) (Act.put a d v) w → Q (.panic c) a w) (hS : S { w with drawn := w.drawn + 1 })
    (h : wpS P l.toArray S (fun a' => ∀ w', S w' → headS P l.toArray S Q (fun s a w => Region.seqB .any l.toArray (l.toArray.size - n) n s = true ∧ wpList P l.toArray Q (l.drop n) a w) g (listS L (Array.replicate l.toArray.size false)) a' w') (L.filterMap fun i => l.toArray[i]?) a) : (Code.region id l.toArray true).wp P Q a w := by
  simp only [Bool.and_eq_true, decide_eq_true_eq] at hB
  obtain ⟨⟨⟨⟨⟨hsel, hn⟩, hs⟩, hc⟩, hT⟩, hl⟩ := hB
  have hdl : (l.drop n).length = l.toArray.size - n := by simp
  have inv0 : HeadInv .any l.toArray n (Array.replicate l.toArray.size false) :=
    ⟨by simp, fun j oj _ hl => (by rw [getD_replicate_false] at hl; cases hl), fun t _ ht => getD_in (by simpa using ht) (getD_replicate_false _ _)⟩
  have H := headS_lex (g := g) hsel hs hc hn hQ (fun s a w hL => seqB_ready hL.1) L _ a _ inv0 hT hS h (fun a' w' hk hw => hk w' hw)
  refine wp_region_any hm ?_
  have F := any_of_headS (g := l.toArray.size - n) (fun s a' w' hL => by
    have hT := hL.2
    have hS := hL.1
    rw [← hdl] at hS ⊢
    exact wpAny_of_seq (l.drop n) n s a' w' (fun j => by simp) hS hT) _ _ _ _ H
  rw [hl, show n + (l.toArray.size - n) = l.toArray.size by omega] at F
  exact F
end Go.Proofs.Ytekdablolacgfaa.W

/- Layer 18's own code, and its laws: lists that are read, numbers' bounds. -/
namespace Go.Proofs.Ytekdablolacgfaa.W
open Go.RowKit Go.Sort
set_option linter.unusedVariables false
set_option linter.unusedSimpArgs false
theorem heap_first (w : World) (o o' : Obj) : ((w.alloc o).alloc o').heap[w.heap.size]? = some o := by
  have h := heap_alloc_new w o
  exact (((Below.refl (w.alloc o).heap.size (w.alloc o)).alloc (Nat.le_refl _) o').block w.heap.size (by simp)).trans h
theorem heap_second (w : World) (o o' : Obj) : ((w.alloc o).alloc o').heap[w.heap.size + 1]? = some o' := by
  have h := heap_alloc_new (w.alloc o) o'
  have e : (w.alloc o).heap.size = w.heap.size + 1 := by simp
  rw [e] at h
  exact h
theorem run_min18 (k : IntKind) (a b m : Int) (h : min a b = m) (ts : Array TypeId) (t : TypeId) (w : World) : (Builtin.min_ ts t #[.int k a, .int k b]).run Try.prog w = .ok (.int k m) w := by
  subst h
  rcases Int.lt_trichotomy a b with h | rfl | h
  · simp [Builtin.min_, Builtin.min2, show min a b = a by omega, h, show ¬ b < a by omega]
  · simp [Builtin.min_, Builtin.min2]
  · simp [Builtin.min_, Builtin.min2, show min a b = b by omega, h, show ¬ a < b by omega]
theorem run_max18 (k : IntKind) (a b m : Int) (h : max a b = m) (ts : Array TypeId) (t : TypeId) (w : World) : (Builtin.max_ ts t #[.int k a, .int k b]).run Try.prog w = .ok (.int k m) w := by
  subst h
  rcases Int.lt_trichotomy a b with h | rfl | h
  · simp [Builtin.max_, Builtin.max2, show max a b = b by omega, h, show ¬ b < a by omega]
  · simp [Builtin.max_, Builtin.max2]
  · simp [Builtin.max_, Builtin.max2, show max a b = a by omega, h, show ¬ a < b by omega]
def I64 (x : Int) : Prop := -9223372036854775808 ≤ x ∧ x ≤ 9223372036854775807
theorem sumO_i64 (o d : List Int) : ∀ n, I64 (sumO o d n)
  | 0 => by unfold sumO I64; decide
  | n + 1 => by unfold sumO addI cutI I64; omega
theorem sumW_i64 (d : List Int) : ∀ n, I64 (sumW d n)
  | 0 => by unfold sumW I64; decide
  | n + 1 => by unfold sumW addI cutI I64; omega
theorem sumJ_i64 (o d : List Int) (x : Int) : ∀ n, I64 (sumJ o d x n)
  | 0 => by unfold sumJ I64; decide
  | n + 1 => by unfold sumJ addI cutI I64; omega
theorem div_i64 (a b : Int) : I64 (divI a b) := by
  unfold divI endI cutI I64
  repeat' split
  all_goals omega
theorem mul_i64 (a b : Int) : I64 (mulI a b) := by unfold mulI cutI I64; omega
theorem sub_i64 (a b : Int) : I64 (subI a b) := by unfold subI cutI I64; omega
theorem getD_in {l : List Int} {q : Nat} (h : q < l.length) : l.getD q 0 ∈ l := by
  have : l.getD q 0 = l[q] := by simp [List.getD, h]
  rw [this]
  exact List.getElem_mem h
theorem num_at18 {F : Nat → Prop} {w wr : World} {x : Option Addr} {c : Nat} {l : List Int} {q : Nat} (h : SlAt F 1 (oneE .i64) w (.slice x l.length c) l) (hF : ∀ b, F b → b < w.heap.size) (hB : Below w.heap.size w wr) (hq : q < l.length) :
    ∃ b off, x = some ⟨b, off, none⟩ ∧ wr.cell? ⟨b, off + q, none⟩ = some (.int .i64 (l.getD q 0)) := by
  rcases h with ⟨_, _, _, _, rfl⟩ | ⟨b, off, cap, hv, hb, hc⟩
  · simp at hq
  · obtain ⟨rfl, _⟩ := Value.slice.inj hv
    refine ⟨b, off, rfl, ?_⟩
    rw [hB.cell (hF b hb)]
    have hx : l[q]? = some (l.getD q 0) := by simp [List.getD, hq]
    have := hc q _ hx 0 _ rfl
    simpa using this
theorem str_at18 {F : Nat → Prop} {w wr : World} {x : Option Addr} {c : Nat} {l : List Sv} {k : Int} (h : SlAt F 11 svC w (.slice x l.length c) l) (hF : ∀ b, F b → b < w.heap.size) (hB : Below w.heap.size w wr) (h0 : 0 ≤ k) (h1 : k < l.length) :
    ∃ b off, x = some ⟨b, off, none⟩ ∧ wr.cell? ⟨b, off + k.toNat * 11 + 1, none⟩ = some (.int .i64 (svAt l k.toNat).str) := by
  rcases h with ⟨_, _, _, _, rfl⟩ | ⟨b, off, cap, hv, hb, hc⟩
  · simp at h1
    omega
  · obtain ⟨rfl, _⟩ := Value.slice.inj hv
    refine ⟨b, off, rfl, ?_⟩
    rw [hB.cell (hF b hb)]
    have hx : l[k.toNat]? = some (svAt l k.toNat) := by
      have : k.toNat < l.length := by omega
      simp [svAt, List.getD, this]
    exact hc k.toNat _ hx 1 _ rfl
abbrev svA (s : Sv) : Array Value := #[.int .i64 s.leap, .int .i64 s.str, .int .u32 s.ref, .int .i64 s.del, .int .i64 s.disp, .int .i64 s.t.off, .int .i64 s.t.del, .int .i64 s.t.disp, .int .i64 s.t.jit, .int .i64 s.t.at_, .int .u8 s.reg]
theorem sv_at18 {w : World} {b q : Nat} {s : Sv} (h : ∀ j u, (svC s)[j]? = some u → w.cell? ⟨b, q + j, none⟩ = some u) :
    w.cell? ⟨b, q, none⟩ = some (.int .i64 s.leap) ∧ w.cell? ⟨b, q + 1, none⟩ = some (.int .i64 s.str) ∧ w.cell? ⟨b, q + 2, none⟩ = some (.int .u32 s.ref) ∧ w.cell? ⟨b, q + 3, none⟩ = some (.int .i64 s.del) ∧ w.cell? ⟨b, q + 4, none⟩ = some (.int .i64 s.disp) ∧ w.cell? ⟨b, q + 5, none⟩ = some (.int .i64 s.t.off) ∧ w.cell? ⟨b, q + 6, none⟩ = some (.int .i64 s.t.del) ∧ w.cell? ⟨b, q + 7, none⟩ = some (.int .i64 s.t.disp) ∧ w.cell? ⟨b, q + 8, none⟩ = some (.int .i64 s.t.jit) ∧ w.cell? ⟨b, q + 9, none⟩ = some (.int .i64 s.t.at_) ∧ w.cell? ⟨b, q + 10, none⟩ = some (.int .u8 s.reg) :=
  ⟨h 0 _ rfl, h 1 _ rfl, h 2 _ rfl, h 3 _ rfl, h 4 _ rfl, h 5 _ rfl, h 6 _ rfl, h 7 _ rfl, h 8 _ rfl, h 9 _ rfl, h 10 _ rfl⟩
theorem eight_in18 {w : World} {b : Nat} {a0 a1 a2 a3 a4 a5 a6 a7 : Value} {t : TypeId} (h : w.heap[b]? = some (.cells #[a0, a1, a2, a3, a4, a5, a6, a7] t (0, 0))) :
    (w.cell? ⟨b, 0, none⟩ = some a0 ∧ w.cell? ⟨b, 1, none⟩ = some a1 ∧ w.cell? ⟨b, 2, none⟩ = some a2 ∧ w.cell? ⟨b, 3, none⟩ = some a3 ∧ w.cell? ⟨b, 4, none⟩ = some a4 ∧ w.cell? ⟨b, 5, none⟩ = some a5 ∧ w.cell? ⟨b, 6, none⟩ = some a6 ∧ w.cell? ⟨b, 7, none⟩ = some a7) ∧ ∀ i, w.frozen? ⟨b, i, none⟩ = false := by
  refine ⟨⟨?_, ?_, ?_, ?_, ?_, ?_, ?_, ?_⟩, ?_⟩ <;> simp [World.cell?, World.frozen?, h]
/-- Eight cells, written one behind the other. -/
def put8 (W : World) (p : Nat) (a0 a1 a2 a3 a4 a5 a6 a7 : Value) : World := (((((((W.setCell ⟨p, 0, none⟩ a0).setCell ⟨p, 1, none⟩ a1).setCell ⟨p, 2, none⟩ a2).setCell ⟨p, 3, none⟩ a3).setCell ⟨p, 4, none⟩ a4).setCell ⟨p, 5, none⟩ a5).setCell ⟨p, 6, none⟩ a6).setCell ⟨p, 7, none⟩ a7
theorem put8_at {W : World} {p : Nat} {t : TypeId} {a0 a1 a2 a3 a4 a5 a6 a7 b0 b1 b2 b3 b4 b5 b6 b7 : Value} (h : W.heap[p]? = some (.cells #[b0, b1, b2, b3, b4, b5, b6, b7] t (0, 0))) : (put8 W p a0 a1 a2 a3 a4 a5 a6 a7).heap[p]? = some (.cells #[a0, a1, a2, a3, a4, a5, a6, a7] t (0, 0)) := by
  have h0 := block_set 0 a0 h
  simp only [List.setIfInBounds_toArray, List.set_cons_succ, List.set_cons_zero] at h0
  have h1 := block_set 1 a1 h0
  simp only [List.setIfInBounds_toArray, List.set_cons_succ, List.set_cons_zero] at h1
  have h2 := block_set 2 a2 h1
  simp only [List.setIfInBounds_toArray, List.set_cons_succ, List.set_cons_zero] at h2
  have h3 := block_set 3 a3 h2
  simp only [List.setIfInBounds_toArray, List.set_cons_succ, List.set_cons_zero] at h3
  have h4 := block_set 4 a4 h3
  simp only [List.setIfInBounds_toArray, List.set_cons_succ, List.set_cons_zero] at h4
  have h5 := block_set 5 a5 h4
  simp only [List.setIfInBounds_toArray, List.set_cons_succ, List.set_cons_zero] at h5
  have h6 := block_set 6 a6 h5
  simp only [List.setIfInBounds_toArray, List.set_cons_succ, List.set_cons_zero] at h6
  have h7 := block_set 7 a7 h6
  simp only [List.setIfInBounds_toArray, List.set_cons_succ, List.set_cons_zero] at h7
  unfold put8
  exact h7
theorem set_below18 {B : Nat} {w W : World} (h : Below B w W) (p j : Nat) (v : Value) (hp : B ≤ p) : Below B w (W.setCell ⟨p, j, none⟩ v) := h.setCell (p := ⟨p, j, none⟩) hp v
theorem put8_below {B : Nat} {w W : World} (h : Below B w W) (p : Nat) (hp : B ≤ p) (a0 a1 a2 a3 a4 a5 a6 a7 : Value) : Below B w (put8 W p a0 a1 a2 a3 a4 a5 a6 a7) := by
  have h0 := set_below18 h p 0 a0 hp
  have h1 := set_below18 h0 p 1 a1 hp
  have h2 := set_below18 h1 p 2 a2 hp
  have h3 := set_below18 h2 p 3 a3 hp
  have h4 := set_below18 h3 p 4 a4 hp
  have h5 := set_below18 h4 p 5 a5 hp
  have h6 := set_below18 h5 p 6 a6 hp
  exact set_below18 h6 p 7 a7 hp
theorem three_new18 (w : World) (A B C : Array Value) (ta tb tc : TypeId) (W : World) (h : ((w.alloc (.cells A ta)).alloc (.cells B tb)).alloc (.cells C tc) = W) :
    W.heap[w.heap.size]? = some (.cells A ta (0, 0)) ∧ W.heap[w.heap.size + 1]? = some (.cells B tb (0, 0)) ∧ W.heap[w.heap.size + 1 + 1]? = some (.cells C tc (0, 0)) ∧ Below w.heap.size w W ∧ W.heap.size = w.heap.size + 3 := by
  subst h
  have a1 := heap_alloc_new w (.cells A ta)
  have z1 := World.size_alloc w (.cells A ta)
  have b1 := (Below.refl w.heap.size w).alloc (Nat.le_refl _) (.cells A ta)
  generalize w.alloc (.cells A ta) = w1 at *
  have a2 := heap_alloc_new w1 (.cells B tb)
  have z2 := World.size_alloc w1 (.cells B tb)
  have b2 := b1.alloc (by omega) (.cells B tb)
  have c1 := (Below.heap_alloc w1 (.cells B tb) _ (by omega)).trans a1
  generalize w1.alloc (.cells B tb) = w2 at *
  have a3 := heap_alloc_new w2 (.cells C tc)
  have z3 := World.size_alloc w2 (.cells C tc)
  have b3 := b2.alloc (by omega) (.cells C tc)
  have d1 := (Below.heap_alloc w2 (.cells C tc) _ (by omega)).trans c1
  have d2 := (Below.heap_alloc w2 (.cells C tc) _ (by omega)).trans a2
  rw [z1] at d2
  rw [z2, z1] at a3
  exact ⟨d1, d2, a3, b3, by omega⟩
theorem twelve_in18 {w : World} {b : Nat} {a0 a1 a2 a3 a4 a5 a6 a7 a8 a9 a10 a11 : Value} {t : TypeId} (h : w.heap[b]? = some (.cells #[a0, a1, a2, a3, a4, a5, a6, a7, a8, a9, a10, a11] t (0, 0))) :
    w.cell? ⟨b, 0, none⟩ = some a0 ∧ w.cell? ⟨b, 1, none⟩ = some a1 ∧ w.cell? ⟨b, 2, none⟩ = some a2 ∧ w.cell? ⟨b, 3, none⟩ = some a3 ∧ w.cell? ⟨b, 4, none⟩ = some a4 ∧ w.cell? ⟨b, 5, none⟩ = some a5 ∧ w.cell? ⟨b, 6, none⟩ = some a6 ∧ w.cell? ⟨b, 7, none⟩ = some a7 ∧ w.cell? ⟨b, 8, none⟩ = some a8 ∧ w.cell? ⟨b, 9, none⟩ = some a9 ∧ w.cell? ⟨b, 10, none⟩ = some a10 ∧ w.cell? ⟨b, 11, none⟩ = some a11 := by
  refine ⟨?_, ?_, ?_, ?_, ?_, ?_, ?_, ?_, ?_, ?_, ?_, ?_⟩ <;> simp [World.cell?, h]
theorem sv_cells18 {F : Nat → Prop} {w wr : World} {x : Option Addr} {c : Nat} {l : List Sv} {k : Int} (h : SlAt F 11 svC w (.slice x l.length c) l) (hF : ∀ b, F b → b < w.heap.size) (hB : Below w.heap.size w wr) (h0 : 0 ≤ k) (h1 : k < l.length) :
    ∃ b off, x = some ⟨b, off, none⟩ ∧ b < w.heap.size ∧ ∀ j u, (svC (svAt l k.toNat))[j]? = some u → wr.cell? ⟨b, off + k.toNat * 11 + j, none⟩ = some u := by
  rcases h with ⟨_, _, _, _, rfl⟩ | ⟨b, off, cap, hv, hb, hc⟩
  · simp at h1
    omega
  · obtain ⟨rfl, _⟩ := Value.slice.inj hv
    refine ⟨b, off, rfl, hF b hb, fun j u hu => ?_⟩
    rw [hB.cell (hF b hb)]
    have hx : l[k.toNat]? = some (svAt l k.toNat) := by
      have : k.toNat < l.length := by omega
      simp [svAt, List.getD, this]
    exact hc k.toNat _ hx j u hu
theorem sv_in {l : List Sv} {k : Int} (h0 : 0 ≤ k) (h1 : k < l.length) : svAt l k.toNat ∈ l := by
  have : k.toNat < l.length := by omega
  have e : svAt l k.toNat = l[k.toNat] := by simp [svAt, List.getD, this]
  rw [e]
  exact List.getElem_mem this
theorem lead_in {l : List Sv} {kept : List Int} {old : Int} (h : 0 ≤ leadI l kept old) : leadI l kept old < l.length ∧ (∀ k ∈ kept, 0 ≤ k ∧ k < l.length) := by
  unfold leadI chooseI at h ⊢
  by_cases g1 : kept = []
  · rw [if_pos g1] at h
    omega
  · rw [if_neg g1] at h ⊢
    by_cases g2 : kept.any (fun k => decide (k < 0 ∨ (l.length : Int) ≤ k)) = true
    · rw [if_pos g2] at h
      omega
    · rw [if_neg g2] at h ⊢
      have hall : ∀ k ∈ kept, 0 ≤ k ∧ k < l.length := fun k hk => by
        have : ¬ (k < 0 ∨ (l.length : Int) ≤ k) := fun hb => g2 (by rw [List.any_eq_true]; exact ⟨k, hk, by simpa using hb⟩)
        omega
      refine ⟨?_, hall⟩
      split
      · rename_i g3
        obtain ⟨k, hk, e⟩ := List.any_eq_true.1 g3.1
        have := hall k hk
        have e' : k = old := by simpa using e
        omega
      · cases kept with
        | nil => exact absurd rfl g1
        | cons a r => exact (hall a List.mem_cons_self).2
theorem num_at18u {F : Nat → Prop} {w wr : World} {x : Option Addr} {c : Nat} {l : List Int} {q : Nat} (h : SlAt F 1 (oneE .u32) w (.slice x l.length c) l) (hF : ∀ b, F b → b < w.heap.size) (hB : Below w.heap.size w wr) (hq : q < l.length) :
    ∃ b off, x = some ⟨b, off, none⟩ ∧ wr.cell? ⟨b, off + q, none⟩ = some (.int .u32 (l.getD q 0)) := by
  rcases h with ⟨_, _, _, _, rfl⟩ | ⟨b, off, cap, hv, hb, hc⟩
  · simp at hq
  · obtain ⟨rfl, _⟩ := Value.slice.inj hv
    refine ⟨b, off, rfl, ?_⟩
    rw [hB.cell (hF b hb)]
    have hx : l[q]? = some (l.getD q 0) := by simp [List.getD, hq]
    have := hc q _ hx 0 _ rfl
    simpa using this
set_option maxRecDepth 100000 in
set_option maxHeartbeats 3200000 in
theorem offs_i64 (l : List Sv) (kept : List Int) (tl : ∀ s ∈ l, s.Typed) : ∀ x ∈ offsC l kept, -9223372036854775808 ≤ x ∧ x ≤ 9223372036854775807 := fun x hx => by
  unfold offsC at hx
  obtain ⟨k, _, rfl⟩ := List.mem_map.1 hx
  by_cases h : k.toNat < l.length
  · have e : svAt l k.toNat = l[k.toNat] := by simp [svAt, List.getD, h]
    rw [e]
    exact (tl _ (List.getElem_mem h)).t.off
  · have e : svAt l k.toNat = ⟨0, 0, 0, 0, 0, ⟨0, 0, 0, 0, 0⟩, 0⟩ := by simp [svAt, List.getD, h]
    rw [e]
    exact ⟨by decide, by decide⟩
theorem dist_i64 (p : Pm) (l : List Sv) (kept : List Int) (at_ : Int) : ∀ x ∈ distC p l kept at_, -9223372036854775808 ≤ x ∧ x ≤ 9223372036854775807 := fun x hx => by
  unfold distC at hx
  obtain ⟨k, _, rfl⟩ := List.mem_map.1 hx
  unfold distI addI
  have := cutI_range (addI (dist0 (svAt l k.toNat)) (mulI p.phi (max 0 (subI at_ (svAt l k.toNat).t.at_))) + (svAt l k.toNat).t.jit)
  unfold addI at this
  omega
theorem addI18 (a b : Int) : -9223372036854775808 ≤ addI a b ∧ addI a b ≤ 9223372036854775807 := by
  have := cutI_range (a + b)
  unfold addI
  omega
theorem subI18 (a b : Int) : -9223372036854775808 ≤ subI a b ∧ subI a b ≤ 9223372036854775807 := by
  have := cutI_range (a - b)
  unfold subI
  omega
theorem mulI18 (a b : Int) : -9223372036854775808 ≤ mulI a b ∧ mulI a b ≤ 9223372036854775807 := by
  have := cutI_range (a * b / 4294967296)
  unfold mulI
  omega
theorem absI18 (a : Int) : -9223372036854775808 ≤ absI a ∧ absI a ≤ 9223372036854775807 := by
  have := cutI_range (sizeI a)
  unfold absI
  omega
theorem jitC18 (o d : List Int) (b : Int) : -9223372036854775808 ≤ jitC o d b ∧ jitC o d b ≤ 9223372036854775807 := by
  unfold jitC
  have h1 := (divI_range (sumJ o d b (lenC o d)) (sumW d (lenC o d))).2
  have h2 := rootI_nonneg (divI (sumJ o d b (lenC o d)) (sumW d (lenC o d)))
  have h3 := rootI_lt _ h1
  omega
theorem cell_lt18 {w : World} {b j : Nat} {v : Value} (h : w.cell? ⟨b, j, none⟩ = some v) : b < w.heap.size := by
  by_cases hb : b < w.heap.size
  · exact hb
  · rw [World.cell?] at h
    simp [Array.getElem?_eq_none (Nat.le_of_not_lt hb)] at h
theorem take_snoc18 {α : Type} {l : List α} {q : Nat} {x : α} (h : l[q]? = some x) : l.take (q + 1) = l.take q ++ [x] := by
  obtain ⟨h1, rfl⟩ := List.getElem?_eq_some_iff.1 h
  exact List.take_succ_eq_append_getElem h1
theorem info_i64_18 : (Try.prog.info? 2).map (fun i => (i.zero, i.size, i.bytes)) = some (some (.int .i64 0), 1, 8) := by kernel_rfl
def pmA (p : Pm) : Array Value := #[.int .i64 p.step, .int .i64 p.watch, .int .i64 p.panic, .int .i64 p.maxrate, .int .i64 p.phi, .int .i64 p.maxdist, .int .i64 p.gate, .int .i64 p.minpoll, .int .i64 p.maxpoll, .int .i64 p.burst, .int .i64 p.minsane, .int .i64 p.minleft]
end Go.Proofs.Ytekdablolacgfaa.W

/- Layer 18's own code, walked: weights; the closures that tell what is added; two lists side by side, by an iterator. -/
namespace Go.Proofs.Ytekdablolacgfaa.W
open Go.RowKit Go.Sort
set_option linter.unusedVariables false
set_option linter.unusedSimpArgs false
attribute [local go_sem] Oper.semAt_some
theorem again18 {w w' : World} (h : ∃ p : Regrown, w' = grow (redrawn w p.d) p.os) : Below w.heap.size w w' := by
  obtain ⟨p, rfl⟩ := h
  exact below_regrown w p.d p.os
theorem one_at18 {w : World} {p : Nat} {a : Value} {t : TypeId} (h : w.heap[p]? = some (.cells #[a] t (0, 0))) : w.cell? ⟨p, 0, none⟩ = some a ∧ w.frozen? ⟨p, 0, none⟩ = false := by
  refine ⟨?_, ?_⟩ <;> simp [World.cell?, World.frozen?, h]
theorem own_same18 {β : Type} {B : Nat} {I : β → World → Prop} (h : OwnFrom B I) {s : β} {X Y : World} (hs : I s X) (hB : Below X.heap.size X Y) : I s Y :=
  h s X Y none hs ⟨hB.os, hB.tape, hB.output, hB.size, fun k hk _ => hB.block k hk⟩ (fun r e => by cases e)
set_option maxRecDepth 100000 in
set_option maxHeartbeats 3200000 in
theorem cwt_any (d : Int) (d0 : -9223372036854775808 ≤ d ∧ d ≤ 9223372036854775807) (w : World) :
    Calls Try.prog 12 #[.int .i64 d] w fun e w' => e = .returned (.int .i64 (wtI d)) ∧ Below w.heap.size w w' := by
  obtain ⟨m, hm⟩ : ∃ m, max d 21474836 = m := ⟨_, rfl⟩
  have f1 := fun ts t W => run_max18 .i64 d 21474836 m hm ts t W
  have hv : wtI d = max 1 (divI 4294967296 m) := by unfold wtI; rw [hm]
  have f2 := fun ts t W => run_max18 .i64 1 (divI 4294967296 m) (wtI d) hv.symm ts t W
  have c := fdiv_any 4294967296 m (by decide) (by decide) (by omega) (by omega)
  generalize divI 4294967296 m = x at *
  generalize wtI d = y at *
  clear hm hv
  go_enter Try.func12, Try.ntmps12
  go_wp2_with fail
  (with_reducible refine (c _).mono ?_)
  rintro e w1 ⟨rfl, B1⟩
  have B := Lib.hid B1
  clear B1
  go_wp2_with fail
  go_ret
  exact ⟨rfl, B.out⟩
theorem cself_any (x : Int) (w : World) : Calls Try.prog 20 #[.int .i64 x] w fun e w' => e = .returned (.int .i64 x) ∧ Below w.heap.size w w' := by
  go_enter Try.func20, Try.ntmps20
  go_wp2_with fail
  go_ret
  exact ⟨rfl, Below.refl _ _⟩
def sqI (a x : Int) : Int := mulI (subI x a) (subI x a)
set_option maxRecDepth 100000 in
set_option maxHeartbeats 3200000 in
theorem csq_any (x a : Int) (x0 : -9223372036854775808 ≤ x ∧ x ≤ 9223372036854775807) (a0 : -9223372036854775808 ≤ a ∧ a ≤ 9223372036854775807) (b : Nat) (w : World) (h : w.heap[b]? = some (.cells #[.int .i64 a] 2 (0, 0))) :
    Calls Try.prog 27 #[.int .i64 x, .pointer (some ⟨b, 0, none⟩)] w fun e w' => e = .returned (.int .i64 (sqI a x)) ∧ Below w.heap.size w w' := by
  obtain ⟨c0, _⟩ := one_at18 h
  have r := subI18 x a
  have cS := sub_any x a x0.1 x0.2 a0.1 a0.2
  unfold sqI
  generalize subI x a = g at *
  have cM := fmul_any g g r.1 r.2 r.1 r.2
  clear h
  go_enter Try.func27, Try.ntmps27
  go_wp2_with fail
  (with_reducible refine (cS _).mono ?_)
  rintro e w1 ⟨rfl, rfl⟩
  go_wp2_with fail
  (with_reducible refine (cM _).mono ?_)
  rintro e w2 ⟨rfl, B1⟩
  have B := Lib.hid B1
  clear B1
  go_wp2_with fail
  go_ret
  exact ⟨rfl, B.out⟩
theorem enters_both1 (args : Array Value) (w : World) : (callFunc 60 args).run Try.prog w = .ok (.enter 60 args) w := by kernel_rfl
theorem enters_self (args : Array Value) (w : World) : (callFunc 20 args).run Try.prog w = .ok (.enter 20 args) w := by kernel_rfl
theorem enters_sq (args : Array Value) (w : World) : (callFunc 27 args).run Try.prog w = .ok (.enter 27 args) w := by kernel_rfl
set_option maxRecDepth 100000 in
set_option maxHeartbeats 3200000 in
theorem cboth_any (xo xd : Option Addr) (no nd co cd : Nat) (w : World) : Calls Try.prog 41 #[.slice xo no co, .slice xd nd cd] w fun e w' => e = .returned (.func (.func 60) #[] #[.pointer (some ⟨w.heap.size, 0, none⟩), .pointer (some ⟨w.heap.size + 1, 0, none⟩)]) ∧ w' = (w.alloc (.cells #[.slice xo no co] 22)).alloc (.cells #[.slice xd nd cd] 22) := by
  go_enter Try.func41, Try.ntmps41
  go_wp2_with fail
  go_ret
  exact ⟨rfl, rfl⟩
/-- These blocks stay. -/
def Stays (K : Nat → Prop) (X Y : World) : Prop := ∀ b, K b → Y.heap[b]? = X.heap[b]?
theorem Stays.refl (K : Nat → Prop) (X : World) : Stays K X X := fun _ _ => rfl
theorem Stays.trans {K : Nat → Prop} {A B C : World} (h : Stays K A B) (g : Stays K B C) : Stays K A C := fun b hb => (g b hb).trans (h b hb)
theorem Stays.of_below {K : Nat → Prop} {n : Nat} {X Y : World} (h : Below n X Y) (hK : ∀ b, K b → b < n) : Stays K X Y := fun b hb => h.block b (hK b hb)
theorem Stays.setCell {K : Nat → Prop} (X : World) (a : Addr) (v : Value) (hK : ¬ K a.block) : Stays K X (X.setCell a v) := fun b hb => Below.heap_setCell _ _ _ b (fun e => hK (e ▸ hb))
theorem Stays.cell {K : Nat → Prop} {X Y : World} (h : Stays K X Y) {b i : Nat} (hb : K b) : Y.cell? ⟨b, i, none⟩ = X.cell? ⟨b, i, none⟩ := by
  simp only [World.cell?, h b hb]
/-- Two numbers that come side by side. -/
abbrev Pr18 := { x : Int × Int // (-9223372036854775808 ≤ x.1 ∧ x.1 ≤ 9223372036854775807) ∧ (-9223372036854775808 ≤ x.2 ∧ x.2 ≤ 9223372036854775807) }
def prE (x : Pr18) : Array Value := #[.int .i64 x.1.1, .int .i64 x.1.2]
def prL (pre : List Pr18) : List (Int × Int) := pre.map fun x => x.1
theorem pr_snoc (pre : List Pr18) (x : Pr18) : prL (pre ++ [x]) = prL pre ++ [x.1] := by simp [prL]
def pairs18 (o d : List Int) (n : Nat) : List (Int × Int) := (List.range n).map fun i => (o.getD i 0, d.getD i 0)
theorem pairs_succ18 (o d : List Int) (n : Nat) : pairs18 o d (n + 1) = pairs18 o d n ++ [(o.getD n 0, d.getD n 0)] := by simp [pairs18, List.range_succ]
theorem num_in18 {F : Nat → Prop} {w : World} {x : Option Addr} {c : Nat} {l : List Int} {q : Nat} (h : SlAt F 1 (oneE .i64) w (.slice x l.length c) l) (hq : q < l.length) :
    ∃ b off, x = some ⟨b, off, none⟩ ∧ F b ∧ w.cell? ⟨b, off + q, none⟩ = some (.int .i64 (l.getD q 0)) := by
  rcases h with ⟨_, _, _, _, rfl⟩ | ⟨b, off, cap, hv, hb, hc⟩
  · simp at hq
  · obtain ⟨rfl, _⟩ := Value.slice.inj hv
    refine ⟨b, off, rfl, hb, ?_⟩
    have hx : l[q]? = some (l.getD q 0) := by simp [List.getD, hq]
    have := hc q _ hx 0 _ rfl
    simpa using this
set_option maxRecDepth 100000 in
set_option maxHeartbeats 6400000 in
theorem both1_in (o d : List Int) (ho : o.length ≤ 60) (hd : d.length ≤ 60) (tx : ∀ x ∈ o, -9223372036854775808 ≤ x ∧ x ≤ 9223372036854775807) (td : ∀ x ∈ d, -9223372036854775808 ≤ x ∧ x ≤ 9223372036854775807) (K : Nat → Prop) (l Bo Bd : Nat) (vo vd : Value) (J Jx : List Pr18 → World → Prop) (W : World) (hJ : OwnFrom W.heap.size J) (hK : ∀ b, K b → b < W.heap.size)
    (hY : ∀ pre x W1, J pre W1 → pre.length < lenC o d → YieldAt Fence.wide 0 Try.prog l (prE x) W1 fun e W' => Fixed W.heap.size W1 W' ∧
      ((e = .returned (.bool true) ∧ J (pre ++ [x]) W' ∧ Stays K W1 W') ∨ (e = .returned (.bool false) ∧ Jx (pre ++ [x]) W')))
    (hBo : K Bo) (hBd : K Bd) (h1 : W.heap[Bo]? = some (.cells #[vo] 22 (0, 0))) (h2 : W.heap[Bd]? = some (.cells #[vd] 22 (0, 0))) (so : SlAt K 1 (oneE .i64) W vo o) (sd : SlAt K 1 (oneE .i64) W vd d) (h0 : J [] W) :
    CallsIn Fence.wide 0 Try.prog 60 #[.func (.yield l) #[] #[], .pointer (some ⟨Bo, 0, none⟩), .pointer (some ⟨Bd, 0, none⟩)] W fun e W' => (∃ v, e = .returned v) ∧
      ((∃ xs, prL xs = pairs18 o d (lenC o d) ∧ J xs W') ∨ (∃ pre, Jx pre W')) := by
  obtain ⟨xo, co, rfl⟩ := so.slice
  obtain ⟨xd, cd, rfl⟩ := sd.slice
  refine callsIn_of_wp Try.func60 rfl trivial ?_ rfl
  simp only [Try.ntmps60, List.size_toArray, List.length_cons, List.length_nil, Nat.reduceAdd, Nat.reduceSub, Array.replicate_succ, Array.replicate_zero, List.push_toArray, List.append_toArray, List.nil_append, List.cons_append]
  obtain ⟨b0, _⟩ := one_at18 h1
  obtain ⟨b1, _⟩ := one_at18 h2
  obtain ⟨mn, hmn⟩ : ∃ mn, min (o.length : Int) (d.length : Int) = mn := ⟨_, rfl⟩
  have f1 := fun ts t W => run_min18 .i64 (o.length : Int) (d.length : Int) mn hmn ts t W
  have hlc : mn = (lenC o d : Int) := by unfold lenC; omega
  have hlo : lenC o d ≤ o.length ∧ lenC o d ≤ d.length := by unfold lenC; omega
  have HY := Lib.hid hY
  have HJ := Lib.hid hJ
  have HS := Lib.hid (And.intro so sd)
  have HB := Lib.hid (And.intro h1 h2)
  have HT := Lib.hid (And.intro tx td)
  have hsz := Nat.le_refl W.heap.size
  clear hY hJ so sd h1 h2 hmn tx td
  gi_wp2_with fail
  gi_loopw [10] (fun v wr => ∃ (i : Nat) (pre : List Pr18), i ≤ lenC o d ∧ v = .int .i64 i ∧ pre.length = i ∧ prL pre = pairs18 o d i ∧ J pre wr ∧ Stays K W wr ∧ W.heap.size ≤ wr.heap.size) (fun v _ => lenC o d - (intOf v).toNat)
  case atStart => exact ⟨0, [], Nat.zero_le _, rfl, rfl, by simp [prL, pairs18], h0, Stays.refl _ _, Nat.le_refl _⟩
  case round =>
    obtain ⟨i, pre, hin, rfl, hpl, hP, hJs, hBw, hsw⟩ := hrel
    clear h0 b0 b1
    by_cases hi : i < lenC o d
    · have i1 : (i : Int) < mn := by omega
      have i0 : (0 : Int) ≤ (i : Int) := by omega
      have j1 : (i : Int) < o.length := by omega
      have j2 : (i : Int) < d.length := by omega
      obtain ⟨b, off, rfl, hb, x0⟩ := num_in18 HS.out.1 (q := i) (by omega)
      obtain ⟨b', off', rfl, hb', y0⟩ := num_in18 HS.out.2 (q := i) (by omega)
      have x1 := (hBw.cell hb).trans x0
      have y1 := (hBw.cell hb').trans y0
      obtain ⟨p0, _⟩ := one_at18 ((hBw Bo hBo).trans HB.out.1)
      obtain ⟨p1, _⟩ := one_at18 ((hBw Bd hBd).trans HB.out.2)
      have k0 := cell_regrown p0
      have k1 := cell_regrown p1
      have k2 := cell_regrown x1
      have k3 := cell_regrown y1
      have tt1 := HT.out.1 _ (getD_in (l := o) (q := i) (by omega))
      have tt2 := HT.out.2 _ (getD_in (l := d) (q := i) (by omega))
      obtain ⟨yo, hyo⟩ : ∃ y, o.getD i 0 = y := ⟨_, rfl⟩
      obtain ⟨yd, hyd⟩ : ∃ y, d.getD i 0 = y := ⟨_, rfl⟩
      rw [hyo] at k2 tt1
      rw [hyd] at k3 tt2
      have hsn' : prL (pre ++ [⟨(yo, yd), tt1, tt2⟩]) = pairs18 o d (i + 1) := by rw [pr_snoc, hP, pairs_succ18, hyo, hyd]
      have HSN := Lib.hid hsn'
      have HL := Lib.hid hpl
      have HBW := Lib.hid hBw
      have HJS := Lib.hid hJs
      clear x0 y0 x1 y1 p0 p1 hyo hyd hsn' hP hBw hJs hpl
      gi_wp2_with fail
      refine in_region_below_tail 9 (by kernel_rfl) (by kernel_rfl) ?_
      simp only [List.take_succ_cons, List.take_zero, List.drop_succ_cons, List.drop_zero]
      repeat (quiet_step (fail))
      refine wpQuiet_nil ?_
      intro W6 hw
      replace hw := again18 hw
      have hJ6 := own_same18 HJ.out HJS.out hw
      have hB6 := HBW.out.trans (Stays.of_below hw fun b hb => Nat.lt_of_lt_of_le (hK b hb) hsw)
      have z6 := hw.size
      have hyy := HY.out pre ⟨(yo, yd), tt1, tt2⟩ W6 hJ6 (by have := HL.out; omega)
      have HB6 := Lib.hid hB6
      clear k0 k1 k2 k3 hw hJ6 hB6
      obtain ⟨fn, tmps, assign, body, hy, hR⟩ := hyy
      unfold prE at hy
      dsimp only at hy
      gi_wp2_with fail
      refine ⟨rfl, hR.mono ?_⟩
      rintro e W3 ⟨hkf, ⟨rfl, hJ3, hkp⟩ | ⟨rfl, hJx3⟩⟩
      · have E1 := Lib.hid (And.intro hJ3 (And.intro (HB6.out.trans hkp) hkf.size))
        clear hJ3 hkp hkf
        gi_wp2_with fail
        go_roundw
        case rel =>
          obtain ⟨hJ3, hb3, hz3⟩ := E1.out
          exact ⟨i + 1, _, by omega, rfl, by simp [HL.out], HSN.out, hJ3, hb3, by omega⟩
        case measure => simp [intOf]; omega
      · have E1 := Lib.hid hJx3
        clear hJx3 hkf
        gi_wp2_with fail
        refine bodyPost_ret (results_none rfl _ _ _) rfl ?_
        exact ⟨⟨_, rfl⟩, .inr ⟨_, E1.out⟩⟩
    · obtain rfl : i = lenC o d := by omega
      have hii : ¬ (lenC o d : Int) < mn := by omega
      have E1 := Lib.hid (And.intro hP hJs)
      clear hP hJs hBw
      gi_wp2_with fail
      go_end0
      exact ⟨⟨_, rfl⟩, .inl ⟨pre, E1.out.1, E1.out.2⟩⟩
theorem both_yields (o d : List Int) (ho : o.length ≤ 60) (hd : d.length ≤ 60) (tx : ∀ x ∈ o, -9223372036854775808 ≤ x ∧ x ≤ 9223372036854775807) (td : ∀ x ∈ d, -9223372036854775808 ≤ x ∧ x ≤ 9223372036854775807) (K : Nat → Prop) (Bo Bd : Nat) (vo vd : Value) (w : World) (hK : ∀ b, K b → b < w.heap.size) (hBo : K Bo) (hBd : K Bd)
    (h1 : w.heap[Bo]? = some (.cells #[vo] 22 (0, 0))) (h2 : w.heap[Bd]? = some (.cells #[vd] 22 (0, 0))) (so : SlAt K 1 (oneE .i64) w vo o) (sd : SlAt K 1 (oneE .i64) w vd d) :
    Yields Try.prog 60 #[.pointer (some ⟨Bo, 0, none⟩), .pointer (some ⟨Bd, 0, none⟩)] prE (Stays K) (fun xs => prL xs = pairs18 o d (lenC o d)) (fun _ => True) (lenC o d) w :=
  fun l J Jx W hW hJ _ hY h0 => (both1_in o d ho hd tx td K l Bo Bd vo vd J Jx W hJ (fun b hb => Nat.lt_of_lt_of_le (hK b hb) hW.size) hY hBo hBd ((hW.block Bo (hK _ hBo)).trans h1) ((hW.block Bd (hK _ hBd)).trans h2)
    (so.kept fun b hb => hW.block b (hK b hb)) (sd.kept fun b hb => hW.block b (hK b hb)) h0).mono fun e W' h => ⟨h.1, h.2.elim .inl fun ⟨p, hp⟩ => .inr ⟨p, trivial, hp⟩⟩
end Go.Proofs.Ytekdablolacgfaa.W

/- Layer 18's own code, walked: a mean of what a closure tells, by weights. -/
namespace Go.Proofs.Ytekdablolacgfaa.W
open Go.RowKit Go.Sort
set_option linter.unusedVariables false
set_option linter.unusedSimpArgs false
attribute [local go_sem] Oper.semAt_some
def accO (pf : Int → Int) (L : List (Int × Int)) : Int := L.foldl (fun a x => addI a (mulI (pf x.1) (wtI x.2))) 0
def accW (L : List (Int × Int)) : Int := L.foldl (fun a x => addI a (wtI x.2)) 0
theorem accO_snoc (pf : Int → Int) (L : List (Int × Int)) (x : Int × Int) : accO pf (L ++ [x]) = addI (accO pf L) (mulI (pf x.1) (wtI x.2)) := by simp [accO]
theorem accW_snoc (L : List (Int × Int)) (x : Int × Int) : accW (L ++ [x]) = addI (accW L) (wtI x.2) := by simp [accW]
theorem accO_range (pf : Int → Int) (L : List (Int × Int)) : -9223372036854775808 ≤ accO pf L ∧ accO pf L ≤ 9223372036854775807 := by
  rcases List.eq_nil_or_concat L with rfl | ⟨M, x, rfl⟩
  · simp [accO]
  · rw [List.concat_eq_append, accO_snoc]
    exact addI18 _ _
theorem accW_range (L : List (Int × Int)) : -9223372036854775808 ≤ accW L ∧ accW L ≤ 9223372036854775807 := by
  rcases List.eq_nil_or_concat L with rfl | ⟨M, x, rfl⟩
  · exact ⟨by decide, by decide⟩
  · rw [List.concat_eq_append, accW_snoc]
    exact addI18 _ _
theorem own_blk18 {β : Type} (B : Nat) (cs : β → Array Value) (t : TypeId) (fr : Nat × Nat) : Own (fun (s : β) W => W.heap[B]? = some (.cells (cs s) t fr)) := by
  intro s X Y row h hg hrow
  refine (hg.block B (Array.getElem?_eq_some_iff.1 h).1 (fun e' => ?_)).trans h
  obtain ⟨o, ho, hc⟩ := hrow B e'.symm
  rw [h] at ho
  cases ho
  cases hc
theorem own_lt18 {β : Type} (n : Nat) : Own (fun (_ : β) W => n ≤ W.heap.size) := fun _ _ _ _ h hg _ => Nat.le_trans h hg.size
theorem stays_put {K : Nat → Prop} {w : World} (hK : ∀ b, K b → b < w.heap.size) (W : World) (l : Nat) (o o' : Obj) (hl : w.heap.size ≤ l) (_ : W.heap[l]? = some o) (_ : o.isCells = false) : Stays K W (W.putObj l o') :=
  fun b hb => World.putObj_heap_other (by have := hK b hb; omega)
/-- The caller's own blocks but those that gather. -/
def KpA (n N : Nat) (b : Nat) : Prop := b < N ∧ b ≠ n + 1 ∧ b ≠ n + 1 + 1
set_option maxRecDepth 100000 in
set_option maxHeartbeats 12800000 in
theorem cweigh_any (o d : List Int) (ho : o.length ≤ 60) (hd : d.length ≤ 60) (tx : ∀ x ∈ o, -9223372036854775808 ≤ x ∧ x ≤ 9223372036854775807) (td : ∀ x ∈ d, -9223372036854775808 ≤ x ∧ x ≤ 9223372036854775807)
    (g : Nat) (lb : Array Value) (eg : ∀ args w, (callFunc g args).run Try.prog w = .ok (.enter g args) w) (pf : Int → Int) (hpf : ∀ x, -9223372036854775808 ≤ x ∧ x ≤ 9223372036854775807 → -9223372036854775808 ≤ pf x ∧ pf x ≤ 9223372036854775807)
    {F G : Nat → Prop} {vo vd : Value} (w : World) (so : SlAt F 1 (oneE .i64) w vo o) (sd : SlAt G 1 (oneE .i64) w vd d) (hF : ∀ b, F b → b < w.heap.size) (hG : ∀ b, G b → b < w.heap.size)
    (hg : ∀ W : World, Below w.heap.size w W → ∀ x : Int, -9223372036854775808 ≤ x ∧ x ≤ 9223372036854775807 → Calls Try.prog g (#[.int .i64 x] ++ lb) W fun e W' => e = .returned (.int .i64 (pf x)) ∧ Below W.heap.size W W') :
    Calls Try.prog 19 #[vo, vd, .func (.func g) #[] lb] w fun e w' => e = .returned (.int .i64 (divI (accO pf (pairs18 o d (lenC o d))) (accW (pairs18 o d (lenC o d))))) ∧ Below w.heap.size w w' := by
  obtain ⟨xo, co, rfl⟩ := so.slice
  obtain ⟨xd, cd, rfl⟩ := sd.slice
  refine (callsIn_wide (n := 0)).1 ?_
  refine callsIn_of_wp_marks Try.func19 rfl trivial ?_ rfl
  simp only [Try.ntmps19, List.size_toArray, List.length_cons, List.length_nil, Nat.reduceAdd, Nat.reduceSub, Array.replicate_succ, Array.replicate_zero, List.push_toArray, List.append_toArray, List.nil_append, List.cons_append]
  obtain ⟨w3, hw3⟩ : ∃ W, (((w.alloc (.cells #[.func (.func g) #[] lb] 28)).alloc (.cells #[.int .i64 0] 2)).alloc (.cells #[.int .i64 0] 2)) = W := ⟨_, rfl⟩
  obtain ⟨q0, q1, q2, B3, z3⟩ := three_new18 _ _ _ _ _ _ _ _ hw3
  obtain ⟨c1, f1⟩ := one_at18 q1
  obtain ⟨c2, f2⟩ := one_at18 q2
  have HW := Lib.hid hg
  have SO := Lib.hid (And.intro so sd)
  have HF := Lib.hid (And.intro hF hG)
  have HT := Lib.hid (And.intro tx td)
  clear so sd hF hG hg tx td
  gi_wp2_with (rw [hw3])
  have r0 := (block_far (w := w3.setCell ⟨w.heap.size + 1, 0, none⟩ (.int .i64 0)) (b := w.heap.size + 1 + 1) 0 (.int .i64 0) (show w.heap.size ≠ w.heap.size + 1 + 1 by omega)).trans ((block_far (w := w3) (b := w.heap.size + 1) 0 (.int .i64 0) (show w.heap.size ≠ w.heap.size + 1 by omega)).trans q0)
  have r1 := (block_far (w := w3.setCell ⟨w.heap.size + 1, 0, none⟩ (.int .i64 0)) (b := w.heap.size + 1 + 1) 0 (.int .i64 0) (show w.heap.size + 1 ≠ w.heap.size + 1 + 1 by omega)).trans (block_set 0 (.int .i64 0) q1)
  have r2 := block_set 0 (.int .i64 0) ((block_far (w := w3) (b := w.heap.size + 1) 0 (.int .i64 0) (show w.heap.size + 1 + 1 ≠ w.heap.size + 1 by omega)).trans q2)
  have B5 := (B3.setCell (p := ⟨w.heap.size + 1, 0, none⟩) (by show w.heap.size ≤ w.heap.size + 1; omega) (.int .i64 0)).setCell (p := ⟨w.heap.size + 1 + 1, 0, none⟩) (by show w.heap.size ≤ w.heap.size + 1 + 1; omega) (.int .i64 0)
  have z5 : ((w3.setCell ⟨w.heap.size + 1, 0, none⟩ (.int .i64 0)).setCell ⟨w.heap.size + 1 + 1, 0, none⟩ (.int .i64 0)).heap.size = w.heap.size + 3 := by rw [set_size, set_size]; exact z3
  generalize (w3.setCell ⟨w.heap.size + 1, 0, none⟩ (.int .i64 0)).setCell ⟨w.heap.size + 1 + 1, 0, none⟩ (.int .i64 0) = w5 at *
  clear q0 q1 q2 B3 z3 c1 f1 c2 f2 hw3
  simp only [List.setIfInBounds_toArray, List.set_cons_zero] at r1 r2
  refine ⟨trivial, rfl, (callsIn_wide.2 (cboth_any _ _ _ _ _ _ _)).mono ?_⟩
  rintro e w6' ⟨rfl, rfl⟩
  have s3 := heap_first w5 (.cells #[.slice xo o.length co] 22) (.cells #[.slice xd d.length cd] 22)
  have s4 := heap_second w5 (.cells #[.slice xo o.length co] 22) (.cells #[.slice xd d.length cd] 22)
  have G6 := ((Below.refl w5.heap.size w5).alloc (Nat.le_refl _) (.cells #[.slice xo o.length co] 22)).alloc (by rw [World.size_alloc]; omega) (.cells #[.slice xd d.length cd] 22)
  have z6 : ((w5.alloc (.cells #[.slice xo o.length co] 22)).alloc (.cells #[.slice xd d.length cd] 22)).heap.size = w.heap.size + 5 := by rw [World.size_alloc, World.size_alloc, z5]
  generalize (w5.alloc (.cells #[.slice xo o.length co] 22)).alloc (.cells #[.slice xd d.length cd] 22) = w6 at *
  rw [z5] at s3 s4 ⊢
  have B6 := B5.trans (G6.mono (by omega))
  have t0 := (G6.block w.heap.size (by omega)).trans r0
  have t1 := (G6.block (w.heap.size + 1) (by omega)).trans r1
  have t2 := (G6.block (w.heap.size + 1 + 1) (by omega)).trans r2
  have so6 : SlAt (KpA w.heap.size w6.heap.size) 1 (oneE .i64) w6 (.slice xo o.length co) o := (SO.out.1.kept fun b hb => B6.block b (HF.out.1 b hb)).mono fun b hb => ⟨by have := HF.out.1 b hb; omega, by have := HF.out.1 b hb; omega, by have := HF.out.1 b hb; omega⟩
  have sd6 : SlAt (KpA w.heap.size w6.heap.size) 1 (oneE .i64) w6 (.slice xd d.length cd) d := (SO.out.2.kept fun b hb => B6.block b (HF.out.2 b hb)).mono fun b hb => ⟨by have := HF.out.2 b hb; omega, by have := HF.out.2 b hb; omega, by have := HF.out.2 b hb; omega⟩
  have hy := both_yields o d ho hd HT.out.1 HT.out.2 (KpA w.heap.size w6.heap.size) (w.heap.size + 3) (w.heap.size + 3 + 1) _ _ w6 (fun b h => h.1) ⟨by omega, by omega, by omega⟩ ⟨by omega, by omega, by omega⟩ s3 s4 so6 sd6
  have HY := Lib.hid hy
  have HI := Lib.hid (And.intro t1 (And.intro t2 (And.intro t0 B6)))
  clear r0 r1 r2 B5 s3 s4 G6 t0 t1 t2 so6 sd6 hy B6
  gi_wp2_with fail
  refine range_yields (gf := 60) (lb := #[.pointer (some ⟨w.heap.size + 3, 0, none⟩), .pointer (some ⟨w.heap.size + 3 + 1, 0, none⟩)]) rfl enters_both1 HY.out (fun h k => h.trans k) (stays_put fun b h => h.1) (Below.refl _ _) (fun _ => rfl)
    (fun pre X => (X.heap[w.heap.size + 1]? = some (.cells #[.int .i64 (accO pf (prL pre))] 2 (0, 0)) ∧ X.heap[w.heap.size + 1 + 1]? = some (.cells #[.int .i64 (accW (prL pre))] 2 (0, 0)) ∧ X.heap[w.heap.size]? = some (.cells #[.func (.func g) #[] lb] 28 (0, 0))) ∧ Below w.heap.size w X ∧ w6.heap.size ≤ X.heap.size)
    (fun c pre X => False)
    (OwnFrom.and (OwnFrom.and ((own_blk18 _ (fun pre : List Pr18 => #[.int .i64 (accO pf (prL pre))]) _ _).from _) (OwnFrom.and ((own_blk18 _ (fun pre : List Pr18 => #[.int .i64 (accW (prL pre))]) _ _).from _) ((own_blk18 _ _ _ _).from _))) (OwnFrom.and (ownFrom_below (Nat.le_refl _) (by omega)) ((own_lt18 _).from _)))
    (fun c s X Y row h hg hr => h)
    ⟨⟨HI.out.1, HI.out.2.1, HI.out.2.2.1⟩, HI.out.2.2.2, Nat.le_refl _⟩
    (fun x a' X => a' = { tmps := #[.slice xo o.length co, .slice xd d.length cd, .func (.func g) #[] lb, undef, undef, .pointer (some ⟨w.heap.size, 0, none⟩), .int .i64 0, .pointer (some ⟨w.heap.size + 1, 0, none⟩), .pointer (some ⟨w.heap.size + 1 + 1, 0, none⟩), .int .i64 x.1.1, .int .i64 x.1.2, undef, .slice xo o.length co, .slice xd d.length cd, .func (.func 60) #[] #[.pointer (some ⟨w.heap.size + 3, 0, none⟩), .pointer (some ⟨w.heap.size + 3 + 1, 0, none⟩)], .int .i64 x.1.1, .int .i64 x.1.2, undef, undef, undef, undef, undef, undef, undef, undef, undef, undef, undef, undef, undef, undef, undef], defers := [] })
    (fun x a' s X Y row h hg hr => h)
    ?assign ?body ?done ?stop
  case assign =>
    rintro lp pre x X K ⟨⟨h1, h2, h0⟩, hB, hz⟩ hK
    have HK := Lib.hid hK
    have HX := Lib.hid (And.intro (And.intro h1 (And.intro h2 h0)) (And.intro hB hz))
    clear h1 h2 h0 hB hz hK
    unfold prE
    gi_wp2_with fail
    exact HK.out _ _ (Fixed.refl _ _) (Stays.refl _ _) HX.out rfl
  case body =>
    rintro lp pre x a' X hlp ⟨⟨h1, h2, h0⟩, hB, hz⟩ rfl hlt
    have cw := cwt_any x.1.2 x.2.2
    have rw' := wt_range x.1.2 x.2.2.2
    have r1 := x.2.1
    have hsn1 := accO_snoc pf (prL pre) x.1
    have hsn2 := accW_snoc (prL pre) x.1
    rw [← pr_snoc] at hsn1 hsn2
    have ra := accO_range pf (prL pre)
    have rb := accW_range (prL pre)
    have rp := hpf x.1.1 x.2.1
    generalize accO pf (prL pre) = va at *
    generalize accW (prL pre) = vb at *
    have H := Lib.hid (And.intro h1 (And.intro h2 (And.intro h0 (And.intro hB hz))))
    have SN := Lib.hid (And.intro hsn1 hsn2)
    clear h1 h2 h0 hB hz hsn1 hsn2
    gi_wp2_with fail
    refine ⟨trivial, rfl, (CallsIn.inRound lp (callsIn_wide.2 (cw _))).mono ?_⟩
    rintro e W5 ⟨rfl, b5⟩
    obtain ⟨h1, h2, h0, hB, hz⟩ := H.out
    have z5' := b5.size
    have k1 := (b5.block _ (by omega)).trans h1
    have k2 := (b5.block _ (by omega)).trans h2
    have k0 := (b5.block _ (by omega)).trans h0
    have hB5 := hB.trans (b5.mono (by omega))
    generalize wtI x.1.2 = wx at *
    have cM := fmul_any (pf x.1.1) wx rp.1 rp.2 (by omega) (by omega)
    have rm := mulI18 (pf x.1.1) wx
    generalize mulI (pf x.1.1) wx = mx at *
    have cA := add_any va mx ra.1 ra.2 rm.1 rm.2
    have cB := add_any vb wx rb.1 rb.2 (by omega) (by omega)
    have d1 := fun dd os => Calls.regrown_of (HW.out (grow (redrawn W5 dd) os) (hB5.trans ((below_regrown W5 dd os).mono (by omega))) x.1.1 r1)
    have d2 := fun dd os => Calls.regrown_of (cM (grow (redrawn W5 dd) os))
    have d3 := fun dd os => Calls.regrown_of ((cA (grow (redrawn W5 dd) os)).mono fun e w' h => And.intro h.1 (h.2 ▸ Below.refl _ _))
    have e1 := cell_regrown (one_at18 k1).1
    have e0 := cell_regrown (one_at18 k0).1
    have H5 := Lib.hid (And.intro k1 (And.intro k2 (And.intro k0 (And.intro hB5 (And.intro b5 hz)))))
    clear h1 h2 h0 hB hz k1 k2 k0 hB5 cw cM cA H b5
    gi_wp2_with fail
    refine in_region_below_tail_round 7 (by kernel_rfl) (by kernel_rfl) (by kernel_rfl) ?_
    simp only [List.take_succ_cons, List.take_zero, List.drop_succ_cons, List.drop_zero]
    repeat (quiet_step (first | (with_reducible exact d1 _ _) | (with_reducible exact d2 _ _) | (with_reducible exact d3 _ _)))
    refine wpQuiet_nil ?_
    intro W6 hw
    replace hw := again18 hw
    obtain ⟨k1, k2, k0, hB5, b5, hz⟩ := H5.out
    have z6' := hw.size
    have m1 := (hw.block _ (by omega)).trans k1
    have m2 := (hw.block _ (by omega)).trans k2
    have m0 := (hw.block _ (by omega)).trans k0
    have b6 := b5.trans (hw.mono z5')
    have hB6 := hB5.trans (hw.mono (by omega))
    obtain ⟨c1, f1⟩ := one_at18 m1
    obtain ⟨c2, f2⟩ := one_at18 m2
    have H6 := Lib.hid (And.intro m1 (And.intro m2 (And.intro m0 (And.intro hB6 (And.intro b6 hz)))))
    obtain ⟨ya, hya⟩ : ∃ y, addI va mx = y := ⟨_, rfl⟩
    rw [hya] at SN ⊢
    clear k1 k2 k0 hB5 b5 hz hw m1 m2 m0 b6 hB6 d1 d2 d3 e1 e0 H5 hya
    gi_wp2_with fail
    refine ⟨trivial, rfl, (CallsIn.inRound lp (callsIn_wide.2 (cB _))).mono ?_⟩
    rintro e W7 ⟨rfl, rfl⟩
    obtain ⟨m1, m2, m0, hB6, b6, hz⟩ := H6.out
    have g1 := block_set 0 (.int .i64 ya) m1
    have g2 := (block_far (w := W6) (b := w.heap.size + 1) 0 (.int .i64 ya) (show w.heap.size + 1 + 1 ≠ w.heap.size + 1 by omega)).trans m2
    have g0 := (block_far (w := W6) (b := w.heap.size + 1) 0 (.int .i64 ya) (show w.heap.size ≠ w.heap.size + 1 by omega)).trans m0
    simp only [List.setIfInBounds_toArray, List.set_cons_zero] at g1
    have S7 : Stays (KpA w.heap.size w6.heap.size) X (W6.setCell ⟨w.heap.size + 1, 0, none⟩ (.int .i64 ya)) := (Stays.of_below b6 (fun b hb => by have := hb.1; omega)).trans (Stays.setCell W6 _ _ (fun h => h.2.1 rfl))
    have F7 : Fixed w6.heap.size X (W6.setCell ⟨w.heap.size + 1, 0, none⟩ (.int .i64 ya)) := (Fixed.of_below b6 (Nat.le_refl _)).trans (Fixed.setCell W6 (a := ⟨w.heap.size + 1, 0, none⟩) (by show w.heap.size + 1 < w6.heap.size; omega) (.int .i64 ya))
    have B7 := hB6.setCell (p := ⟨w.heap.size + 1, 0, none⟩) (by show w.heap.size ≤ w.heap.size + 1; omega) (.int .i64 ya)
    have z7 : (W6.setCell ⟨w.heap.size + 1, 0, none⟩ (.int .i64 ya)).heap.size = W6.heap.size := set_size _ _ _
    generalize W6.setCell ⟨w.heap.size + 1, 0, none⟩ (.int .i64 ya) = W7 at *
    clear m1 m2 m0 hB6 b6 H6 c1 f1 c2 f2
    obtain ⟨c2, f2⟩ := one_at18 g2
    have H7 := Lib.hid (And.intro g1 (And.intro g2 (And.intro g0 (And.intro S7 (And.intro F7 (And.intro B7 hz))))))
    obtain ⟨yb, hyb⟩ : ∃ y, addI vb wx = y := ⟨_, rfl⟩
    rw [hyb] at SN ⊢
    clear g1 g2 g0 S7 F7 B7 hz cB hyb
    gi_wp2_with fail
    obtain ⟨g1, g2, g0, S7, F7, B7, hz⟩ := H7.out
    refine ⟨F7.trans (Fixed.setCell W7 (a := ⟨w.heap.size + 1 + 1, 0, none⟩) (by show w.heap.size + 1 + 1 < w6.heap.size; omega) (.int .i64 yb)), S7.trans (Stays.setCell W7 _ _ (fun h => h.2.2 rfl)), ⟨?_, ?_, (block_far _ _ (by omega)).trans g0⟩, B7.setCell (p := ⟨w.heap.size + 1 + 1, 0, none⟩) (by show w.heap.size ≤ w.heap.size + 1 + 1; omega) (.int .i64 yb), by rw [set_size]; omega⟩
    · rw [SN.out.1]
      exact (block_far _ _ (by omega)).trans g1
    · rw [SN.out.2]
      exact block_set 0 _ g2
  case done =>
    rintro D xs X hD hS ⟨⟨h1, h2, h0⟩, hB, hz⟩ hK
    rw [hS] at h1 h2
    have ra := accO_range pf (pairs18 o d (lenC o d))
    have rb := accW_range (pairs18 o d (lenC o d))
    obtain ⟨va, hva⟩ : ∃ v, accO pf (pairs18 o d (lenC o d)) = v := ⟨_, rfl⟩
    obtain ⟨vb, hvb⟩ : ∃ v, accW (pairs18 o d (lenC o d)) = v := ⟨_, rfl⟩
    rw [hva] at h1 ra
    rw [hvb] at h2 rb
    have HV := Lib.hid (And.intro hva hvb)
    clear hva hvb hS
    have cD := fdiv_any va vb ra.1 ra.2 rb.1 rb.2
    obtain ⟨c1, _⟩ := one_at18 h1
    obtain ⟨c2, _⟩ := one_at18 h2
    have H := Lib.hid (And.intro hB hK)
    have hsz := hB.size
    clear h1 h2 h0 hB hK
    gi_wp2_with fail
    refine ⟨trivial, rfl, (callsIn_wide.2 (cD _)).mono ?_⟩
    rintro e W5 ⟨rfl, b5⟩
    obtain ⟨hB, hK⟩ := H.out
    have hDl := (Array.getElem?_eq_some_iff.1 hK).1
    have hK5 := (b5.block D hDl).trans hK
    have HE := Lib.hid (And.intro (hB.trans (b5.mono hsz)) hK5)
    clear hB hK b5 hK5 c1 c2 H cD
    gi_wp2_with fail
    obtain ⟨hB, hK⟩ := HE.out
    refine ⟨by simp, .inl ⟨_, _, rfl, run_takeDeferred hK, ?_⟩⟩
    exact ⟨_, results_tmp rfl _ _ _, by rw [HV.out.1, HV.out.2]; rfl, hB.trans (belowK_b (w := w) (Nat.le_refl _) W5 D _ _ (by omega) hK rfl rfl)⟩
  case stop =>
    rintro D c pre W _ _ h _
    exact h.elim
end Go.Proofs.Ytekdablolacgfaa.W

/- Layer 18's own code, walked: means and jitters. -/
namespace Go.Proofs.Ytekdablolacgfaa.W
open Go.RowKit Go.Sort
set_option linter.unusedVariables false
set_option linter.unusedSimpArgs false
theorem acc_self (o d : List Int) : ∀ n, accO (fun x => x) (pairs18 o d n) = sumO o d n
  | 0 => rfl
  | n + 1 => by rw [pairs_succ18, accO_snoc, acc_self o d n]; rfl
theorem acc_w (o d : List Int) : ∀ n, accW (pairs18 o d n) = sumW d n
  | 0 => rfl
  | n + 1 => by rw [pairs_succ18, accW_snoc, acc_w o d n]; rfl
theorem mul_swap18 (a b : Int) : mulI a b = mulI b a := by unfold mulI; rw [Int.mul_comm]
theorem acc_sq (o d : List Int) (a : Int) : ∀ n, accO (sqI a) (pairs18 o d n) = sumJ o d a n
  | 0 => rfl
  | n + 1 => by
    rw [pairs_succ18, accO_snoc, acc_sq o d a n, mul_swap18]
    rfl
theorem two_at18 {w : World} {b : Nat} {x y : Value} {t : TypeId} (h : w.heap[b]? = some (.cells #[x, y] t (0, 0))) : w.cell? ⟨b, 0, none⟩ = some x ∧ w.cell? ⟨b, 1, none⟩ = some y := by constructor <;> simp [World.cell?, h]
set_option maxRecDepth 100000 in
set_option maxHeartbeats 6400000 in
theorem cmean18_any (o d : List Int) (ho : o.length ≤ 60) (hd : d.length ≤ 60) (tx : ∀ x ∈ o, -9223372036854775808 ≤ x ∧ x ≤ 9223372036854775807) (td : ∀ x ∈ d, -9223372036854775808 ≤ x ∧ x ≤ 9223372036854775807) (lo hi : Int) (l0 : -9223372036854775808 ≤ lo ∧ lo ≤ 9223372036854775807) (h0 : -9223372036854775808 ≤ hi ∧ hi ≤ 9223372036854775807) {F G : Nat → Prop} {vo vd : Value} (w : World) (so : SlAt F 1 (oneE .i64) w vo o) (sd : SlAt G 1 (oneE .i64) w vd d) (hF : ∀ b, F b → b < w.heap.size) (hG : ∀ b, G b → b < w.heap.size) :
    Calls Try.prog 8 #[vo, vd, .agg #[.int .i64 lo, .int .i64 hi]] w fun e w' => e = .returned (.int .i64 (meanC o d lo hi)) ∧ Below w.heap.size w w' := by
  have x0 := heap_alloc_new w (.cells #[.int .i64 lo, .int .i64 hi] 24)
  have B0 := (Below.refl w.heap.size w).alloc (Nat.le_refl _) (.cells #[.int .i64 lo, .int .i64 hi] 24)
  have z0 := World.size_alloc w (.cells #[.int .i64 lo, .int .i64 hi] 24)
  have so0 := so.kept fun b hb => B0.block b (hF b hb)
  have sd0 := sd.kept fun b hb => B0.block b (hG b hb)
  have cW := cweigh_any o d ho hd tx td 20 #[] enters_self (fun x => x) (fun x hx => hx) _ so0 sd0 (fun b hb => Nat.lt_of_lt_of_le (hF b hb) B0.size) (fun b hb => Nat.lt_of_lt_of_le (hG b hb) B0.size) (fun W _ x _ => cself_any x W)
  obtain ⟨xo, co, rfl⟩ := so.slice
  obtain ⟨xd, cd, rfl⟩ := sd.slice
  rw [acc_self, acc_w] at cW
  have hv : meanC o d lo hi = clampI (divI (sumO o d (lenC o d)) (sumW d (lenC o d))) lo hi := rfl
  rw [hv]
  have rd := divI_range (sumO o d (lenC o d)) (sumW d (lenC o d))
  generalize divI (sumO o d (lenC o d)) (sumW d (lenC o d)) = q at *
  have cC := clamp_any q lo hi (by omega) (by omega) l0.1 l0.2 h0.1 h0.2
  have X := Lib.hid (And.intro x0 (And.intro B0 z0))
  clear so sd x0 B0 z0 so0 sd0 hv rd
  go_enter Try.func8, Try.ntmps8
  go_wp2_with fail
  generalize w.alloc (.cells #[.int .i64 lo, .int .i64 hi] 24) = w0 at *
  (with_reducible refine cW.mono ?_)
  rintro e w1 ⟨rfl, B1⟩
  obtain ⟨x0, B0, z0⟩ := X.out
  obtain ⟨s0, s1⟩ := two_at18 ((B1.block _ (by omega)).trans x0)
  have BF := Lib.hid (B0.trans (B1.mono (by omega)))
  clear x0 B0 z0 B1 cW X
  go_wp2_with fail
  (with_reducible refine (cC _).mono ?_)
  rintro e w2 ⟨rfl, rfl⟩
  go_wp2_with fail
  go_ret
  exact ⟨rfl, BF.out⟩
set_option maxRecDepth 100000 in
set_option maxHeartbeats 6400000 in
theorem cjit_any (o d : List Int) (ho : o.length ≤ 60) (hd : d.length ≤ 60) (tx : ∀ x ∈ o, -9223372036854775808 ≤ x ∧ x ≤ 9223372036854775807) (td : ∀ x ∈ d, -9223372036854775808 ≤ x ∧ x ≤ 9223372036854775807) (about : Int) (a0 : -9223372036854775808 ≤ about ∧ about ≤ 9223372036854775807) {F G : Nat → Prop} {vo vd : Value} (w : World) (so : SlAt F 1 (oneE .i64) w vo o) (sd : SlAt G 1 (oneE .i64) w vd d) (hF : ∀ b, F b → b < w.heap.size) (hG : ∀ b, G b → b < w.heap.size) :
    Calls Try.prog 10 #[vo, vd, .int .i64 about] w fun e w' => e = .returned (.int .i64 (jitC o d about)) ∧ Below w.heap.size w w' := by
  have x0 := heap_alloc_new w (.cells #[.int .i64 about] 2)
  have B0 := (Below.refl w.heap.size w).alloc (Nat.le_refl _) (.cells #[.int .i64 about] 2)
  have z0 := World.size_alloc w (.cells #[.int .i64 about] 2)
  have so0 := so.kept fun b hb => B0.block b (hF b hb)
  have sd0 := sd.kept fun b hb => B0.block b (hG b hb)
  have cW := cweigh_any o d ho hd tx td 27 #[.pointer (some ⟨w.heap.size, 0, none⟩)] enters_sq (sqI about) (fun x _ => mulI18 _ _) _ so0 sd0 (fun b hb => Nat.lt_of_lt_of_le (hF b hb) B0.size) (fun b hb => Nat.lt_of_lt_of_le (hG b hb) B0.size) (fun W hW x hx => csq_any x about hx a0 w.heap.size W ((hW.block _ (by omega)).trans x0))
  obtain ⟨xo, co, rfl⟩ := so.slice
  obtain ⟨xd, cd, rfl⟩ := sd.slice
  rw [acc_sq, acc_w] at cW
  have hv : jitC o d about = rootI (divI (sumJ o d about (lenC o d)) (sumW d (lenC o d))) := rfl
  rw [hv]
  have rd := divI_range (sumJ o d about (lenC o d)) (sumW d (lenC o d))
  generalize divI (sumJ o d about (lenC o d)) (sumW d (lenC o d)) = q at *
  have cR := fsqrt_any q (by omega) (by omega)
  have X := Lib.hid (And.intro B0 z0)
  clear so sd x0 B0 z0 so0 sd0 hv rd
  go_enter Try.func10, Try.ntmps10
  go_wp2_with fail
  generalize w.alloc (.cells #[.int .i64 about] 2) = w0 at *
  (with_reducible refine cW.mono ?_)
  rintro e w1 ⟨rfl, B1⟩
  obtain ⟨B0, z0⟩ := X.out
  have BF := B0.trans (B1.mono (by omega))
  have HB := Lib.hid BF
  clear B0 z0 B1 cW X BF
  go_wp2_with fail
  (with_reducible refine (cR _).mono ?_)
  rintro e w2 ⟨rfl, B2⟩
  have BZ := Lib.hid (HB.out.trans (B2.mono HB.out.size))
  clear B2 cR
  go_wp2_with fail
  go_ret
  exact ⟨rfl, BZ.out⟩
end Go.Proofs.Ytekdablolacgfaa.W

/- Layer 18's own code, walked: which one leads. -/
namespace Go.Proofs.Ytekdablolacgfaa.W
open Go.RowKit Go.Sort
set_option linter.unusedVariables false
set_option linter.unusedSimpArgs false
attribute [local go_sem] Oper.semAt_some
theorem any_of18 {L : List Int} {p : Int → Bool} {q : Nat} (h : q < L.length) (hp : p (L.getD q 0) = true) : L.any p = true := by
  rw [List.any_eq_true]
  exact ⟨_, getD_in h, hp⟩
theorem any_none18 {L : List Int} {p : Int → Bool} (h : ∀ j, j < L.length → p (L.getD j 0) = false) : L.any p = false := by
  rw [Bool.eq_false_iff, Ne, List.any_eq_true]
  rintro ⟨x, hx, hp⟩
  obtain ⟨j, hj, rfl⟩ := List.getElem_of_mem hx
  have := h j hj
  rw [show L.getD j 0 = L[j] by simp [List.getD, hj], hp] at this
  cases this
set_option maxRecDepth 100000 in
set_option maxHeartbeats 6400000 in
theorem cidxf_any (L : List Int) (hL : L.length ≤ 60) (k : Nat) (lb : Array Value) (ek : ∀ args w, (callFunc k args).run Try.prog w = .ok (.enter k args) w) (p : Int → Bool) {F : Nat → Prop} {v : Value} (w : World) (hs : SlAt F 1 (oneE .i64) w v L) (hF : ∀ b, F b → b < w.heap.size)
    (hk : ∀ W : World, Below w.heap.size w W → ∀ x : Int, Calls Try.prog k (#[.int .i64 x] ++ lb) W fun e W' => e = .returned (.bool (p x)) ∧ Below W.heap.size W W') :
    Calls Try.prog 70 #[v, .func (.func k) #[] lb] w fun e w' => ∃ r : Int, e = .returned (.int .i64 r) ∧ decide (0 ≤ r) = L.any p ∧ Below w.heap.size w w' := by
  have HS := Lib.hid hs
  have HF := Lib.hid hF
  have HK := Lib.hid hk
  obtain ⟨xk, ck, rfl⟩ := hs.slice
  have hR := Below.refl w.heap.size w
  clear hs hF hk
  go_enter Try.func70, Try.ntmps70
  go_wp2_with fail
  go_loopw [8] (fun i wr => ∃ q : Nat, q ≤ L.length ∧ i = .int .i64 (q : Int) ∧ (∀ j, j < q → p (L.getD j 0) = false) ∧ Below w.heap.size w wr) (fun i _ => L.length - (intOf i).toNat)
  case atStart => exact ⟨0, Nat.zero_le _, rfl, fun j hj => by omega, hR⟩
  case round =>
    obtain ⟨q, hq, rfl, hno, hB⟩ := hrel
    clear hR
    have HO := Lib.hid hno
    clear hno
    by_cases hlt : q < L.length
    · have i1 : (q : Int) < L.length := by omega
      have i0 : (0 : Int) ≤ (q : Int) := by omega
      obtain ⟨b, off, rfl, x0⟩ := num_at18 HS.out HF.out hB (q := q) hlt
      have cK := HK.out wr hB (L.getD q 0)
      have ha := any_of18 (p := p) hlt
      obtain ⟨y, hy⟩ : ∃ y, L.getD q 0 = y := ⟨_, rfl⟩
      rw [hy] at x0 cK ha
      have HY := Lib.hid (And.intro hy ha)
      have BB := Lib.hid hB
      clear hy ha hB
      cases hp : p y with
      | true =>
        rw [hp] at cK
        have HP := Lib.hid hp
        clear hp
        go_wp2_with fail
        (with_reducible refine cK.mono ?_)
        rintro e w2 ⟨rfl, B2⟩
        have BZ := Lib.hid (BB.out.trans (B2.mono BB.out.size))
        clear B2 cK
        go_wp2_with fail
        go_ret
        exact ⟨_, rfl, by rw [HY.out.2 HP.out]; exact decide_eq_true (by omega), BZ.out⟩
      | false =>
        rw [hp] at cK
        have HP := Lib.hid hp
        clear hp
        go_wp2_with fail
        (with_reducible refine cK.mono ?_)
        rintro e w2 ⟨rfl, B2⟩
        have BZ := Lib.hid (BB.out.trans (B2.mono BB.out.size))
        clear B2 cK
        go_wp2_with fail
        go_roundw
        case rel =>
          refine ⟨q + 1, by omega, by go_num, fun j hj => ?_, BZ.out⟩
          by_cases e : j = q
          · rw [e, HY.out.1]
            exact HP.out
          · exact HO.out j (by omega)
        case measure => simp [intOf]; omega
    · have eq : q = L.length := by omega
      subst eq
      have i3 : ¬ (L.length : Int) < (L.length : Int) := by omega
      have BB := Lib.hid hB
      clear hB
      go_wp2_with fail
      go_ret
      exact ⟨_, rfl, by rw [any_none18 HO.out]; rfl, BB.out⟩
set_option maxRecDepth 100000 in
set_option maxHeartbeats 6400000 in
theorem cidx_any (L : List Int) (hL : L.length ≤ 60) (o : Int) {F : Nat → Prop} {v : Value} (w : World) (hs : SlAt F 1 (oneE .i64) w v L) (hF : ∀ b, F b → b < w.heap.size) :
    Calls Try.prog 59 #[v, .int .i64 o] w fun e w' => ∃ r : Int, e = .returned (.int .i64 r) ∧ decide (0 ≤ r) = L.any (fun k => decide (k = o)) ∧ w = w' := by
  have HS := Lib.hid hs
  have HF := Lib.hid hF
  obtain ⟨xk, ck, rfl⟩ := hs.slice
  clear hs hF
  go_enter Try.func59, Try.ntmps59
  go_wp2_with fail
  go_loopw [8] (fun i wr => ∃ q : Nat, q ≤ L.length ∧ i = .int .i64 (q : Int) ∧ (∀ j, j < q → decide (L.getD j 0 = o) = false) ∧ w = wr) (fun i _ => L.length - (intOf i).toNat)
  case atStart => exact ⟨0, Nat.zero_le _, rfl, fun j hj => by omega, rfl⟩
  case round =>
    obtain ⟨q, hq, rfl, hno, rfl⟩ := hrel
    have HO := Lib.hid hno
    clear hno
    by_cases hlt : q < L.length
    · have i1 : (q : Int) < L.length := by omega
      have i0 : (0 : Int) ≤ (q : Int) := by omega
      obtain ⟨b, off, rfl, x0⟩ := num_at18 HS.out HF.out (Below.refl _ _) (q := q) hlt
      have ha := any_of18 (p := fun k => decide (k = o)) hlt
      obtain ⟨y, hy⟩ : ∃ y, L.getD q 0 = y := ⟨_, rfl⟩
      rw [hy] at x0 ha
      have HY := Lib.hid (And.intro hy ha)
      clear hy ha
      by_cases hp : y = o
      · have d1 : (o == y) = true := by rw [hp]; exact beq_self_eq_true o
        have HP := Lib.hid hp
        clear hp
        go_wp2_with fail
        go_ret
        exact ⟨_, rfl, by rw [HY.out.2 (decide_eq_true HP.out)]; exact decide_eq_true (by omega), rfl⟩
      · have d1 : (o == y) = false := beq_eq_false_iff_ne.2 (fun e => hp e.symm)
        have HP := Lib.hid hp
        clear hp
        go_wp2_with fail
        go_roundw
        case rel =>
          refine ⟨q + 1, by omega, by go_num, fun j hj => ?_, trivial⟩
          by_cases e : j = q
          · rw [e, HY.out.1]
            exact decide_eq_false HP.out
          · exact HO.out j (by omega)
        case measure => simp [intOf]; omega
    · have eq : q = L.length := by omega
      subst eq
      have i3 : ¬ (L.length : Int) < (L.length : Int) := by omega
      go_wp2_with fail
      go_ret
      exact ⟨_, rfl, by rw [any_none18 HO.out]; rfl, rfl⟩
set_option maxRecDepth 100000 in
set_option maxHeartbeats 3200000 in
theorem ccon_any (L : List Int) (hL : L.length ≤ 60) (o : Int) {F : Nat → Prop} {v : Value} (w : World) (hs : SlAt F 1 (oneE .i64) w v L) (hF : ∀ b, F b → b < w.heap.size) :
    Calls Try.prog 40 #[v, .int .i64 o] w fun e w' => e = .returned (.bool (L.any (fun k => decide (k = o)))) ∧ w = w' := by
  have cI := cidx_any L hL o w hs hF
  obtain ⟨xk, ck, rfl⟩ := hs.slice
  generalize L.any (fun k => decide (k = o)) = bb at *
  clear hs
  go_enter Try.func40, Try.ntmps40
  go_wp2_with fail
  (with_reducible refine cI.mono ?_)
  rintro e w2 ⟨r, rfl, hr, rfl⟩
  clear cI
  go_wp2_with fail
  go_ret
  exact ⟨by rw [← hr]; rfl, rfl⟩
set_option maxRecDepth 100000 in
set_option maxHeartbeats 3200000 in
theorem cconf_any (L : List Int) (hL : L.length ≤ 60) (k : Nat) (lb : Array Value) (ek : ∀ args w, (callFunc k args).run Try.prog w = .ok (.enter k args) w) (p : Int → Bool) {F : Nat → Prop} {v : Value} (w : World) (hs : SlAt F 1 (oneE .i64) w v L) (hF : ∀ b, F b → b < w.heap.size)
    (hk : ∀ W : World, Below w.heap.size w W → ∀ x : Int, Calls Try.prog k (#[.int .i64 x] ++ lb) W fun e W' => e = .returned (.bool (p x)) ∧ Below W.heap.size W W') :
    Calls Try.prog 57 #[v, .func (.func k) #[] lb] w fun e w' => e = .returned (.bool (L.any p)) ∧ Below w.heap.size w w' := by
  have cI := cidxf_any L hL k lb ek p w hs hF hk
  obtain ⟨xk, ck, rfl⟩ := hs.slice
  generalize L.any p = bb at *
  clear hs hk
  go_enter Try.func57, Try.ntmps57
  go_wp2_with fail
  (with_reducible refine cI.mono ?_)
  rintro e w2 ⟨r, rfl, hr, B2⟩
  have BZ := Lib.hid B2
  clear cI B2
  go_wp2_with fail
  go_ret
  exact ⟨by rw [← hr]; rfl, BZ.out⟩
set_option maxRecDepth 100000 in
set_option maxHeartbeats 3200000 in
theorem cplc1_any (x m : Int) (b : Nat) (w : World) (h : w.heap[b]? = some (.cells #[.int .i64 m] 3 (0, 0))) :
    Calls Try.prog 58 #[.int .i64 x, .pointer (some ⟨b, 0, none⟩)] w fun e w' => e = .returned (.bool (decide (x < 0 ∨ m ≤ x))) ∧ Below w.heap.size w w' := by
  obtain ⟨c0, _⟩ := one_at18 h
  have hR := Lib.hid (Below.refl w.heap.size w)
  clear h
  by_cases h1 : x < 0
  · have d1 : decide (x < 0) = true := decide_eq_true h1
    have d2 : decide (x < 0 ∨ m ≤ x) = true := decide_eq_true (.inl h1)
    rw [d2]
    clear d2
    go_enter Try.func58, Try.ntmps58
    go_wp2_with fail
    go_ret
    exact ⟨rfl, hR.out⟩
  · have d1 : decide (x < 0) = false := decide_eq_false h1
    by_cases h2 : m ≤ x
    · have d3 : decide (m ≤ x) = true := decide_eq_true h2
      have d2 : decide (x < 0 ∨ m ≤ x) = true := decide_eq_true (.inr h2)
      rw [d2]
      clear d2
      go_enter Try.func58, Try.ntmps58
      go_wp2_with fail
      go_ret
      exact ⟨rfl, hR.out⟩
    · have d3 : decide (m ≤ x) = false := decide_eq_false h2
      have d2 : decide (x < 0 ∨ m ≤ x) = false := decide_eq_false fun h => h.elim h1 h2
      rw [d2]
      clear d2
      go_enter Try.func58, Try.ntmps58
      go_wp2_with fail
      go_ret
      exact ⟨rfl, hR.out⟩
theorem enters_plc1 (args : Array Value) (w : World) : (callFunc 58 args).run Try.prog w = .ok (.enter 58 args) w := by kernel_rfl
set_option maxRecDepth 100000 in
set_option maxHeartbeats 3200000 in
theorem cplc_any (L : List Int) (hL : L.length ≤ 60) (m : Nat) {F : Nat → Prop} {v : Value} (w : World) (hs : SlAt F 1 (oneE .i64) w v L) (hF : ∀ b, F b → b < w.heap.size) :
    Calls Try.prog 39 #[v, .int .i64 (m : Int)] w fun e w' => e = .returned (.bool (!L.any fun k => decide (k < 0 ∨ (m : Int) ≤ k))) ∧ Below w.heap.size w w' := by
  have x0 := heap_alloc_new w (.cells #[.int .i64 (m : Int)] 3)
  have B0 := (Below.refl w.heap.size w).alloc (Nat.le_refl _) (.cells #[.int .i64 (m : Int)] 3)
  have z0 := World.size_alloc w (.cells #[.int .i64 (m : Int)] 3)
  have cF := cconf_any L hL 58 #[.pointer (some ⟨w.heap.size, 0, none⟩)] enters_plc1 (fun k => decide (k < 0 ∨ (m : Int) ≤ k)) _ (hs.kept fun b hb => B0.block b (hF b hb)) (fun b hb => Nat.lt_of_lt_of_le (hF b hb) B0.size) (fun W hW x => cplc1_any x m w.heap.size W ((hW.block _ (by omega)).trans x0))
  obtain ⟨xk, ck, rfl⟩ := hs.slice
  generalize (L.any fun k => decide (k < 0 ∨ (m : Int) ≤ k)) = bb at *
  have X := Lib.hid (And.intro B0 z0)
  clear hs x0 B0 z0
  go_enter Try.func39, Try.ntmps39
  go_wp2_with fail
  generalize w.alloc (.cells #[.int .i64 (m : Int)] 3) = w0 at *
  (with_reducible refine cF.mono ?_)
  rintro e w1 ⟨rfl, B1⟩
  have BF := Lib.hid (X.out.1.trans (B1.mono (by have := X.out.2; omega)))
  clear B1 cF X
  go_wp2_with fail
  go_ret
  exact ⟨rfl, BF.out⟩
set_option maxRecDepth 100000 in
set_option maxHeartbeats 12800000 in
theorem cchoose_any (l : List Sv) (tl : ∀ s ∈ l, s.Typed) (hl : l.length ≤ 60) (kept : List Int) (hk : kept.length ≤ 60) (tk : ∀ x ∈ kept, -9223372036854775808 ≤ x ∧ x ≤ 9223372036854775807) (old : Int) (o0 : -9223372036854775808 ≤ old ∧ old ≤ 9223372036854775807) {F G : Nat → Prop} {vl vk : Value} (w : World) (sl : SlAt F 11 svC w vl l) (sk : SlAt G 1 (oneE .i64) w vk kept) (hF : ∀ b, F b → b < w.heap.size) (hG : ∀ b, G b → b < w.heap.size) :
    Calls Try.prog 17 #[vl, vk, .int .i64 old] w fun e w' => e = .returned (.int .i64 (leadI l kept old)) ∧ Below w.heap.size w w' := by
  have cA := cplc_any kept hk l.length w sk hG
  obtain ⟨xl, cl, rfl⟩ := sl.slice
  obtain ⟨xk, ck, rfl⟩ := sk.slice
  have SO := Lib.hid (And.intro sl sk)
  have HF := Lib.hid (And.intro hF hG)
  have hR := Below.refl w.heap.size w
  have hv : leadI l kept old = chooseI (fun k => (svAt l k).str) l.length kept old := rfl
  clear sl sk hF hG
  by_cases hn : kept = []
  · have e0 : kept.length = 0 := by rw [hn]; rfl
    have hv' : leadI l kept old = -1 := by rw [hv]; unfold chooseI; rw [if_pos hn]
    rw [hv', e0]
    clear hv hv' hn e0 cA
    go_enter Try.func17, Try.ntmps17
    go_wp2_with fail
    go_ret
    exact ⟨rfl, hR⟩
  · have hpos : 0 < kept.length := List.length_pos_iff.2 hn
    have d0 : ((kept.length : Int) == 0) = false := beq_eq_false_iff_ne.2 (by omega)
    have HV := Lib.hid hv
    have HN := Lib.hid hn
    clear hv hn
    cases hb : kept.any (fun k => decide (k < 0 ∨ (l.length : Int) ≤ k)) with
    | true =>
      rw [hb] at cA
      have hv' : leadI l kept old = -1 := by rw [HV.out]; unfold chooseI; rw [if_neg HN.out, if_pos hb]
      rw [hv']
      clear hv' hb
      go_enter Try.func17, Try.ntmps17
      go_wp2_with fail
      (with_reducible refine cA.mono ?_)
      rintro e w1 ⟨rfl, B1⟩
      have BB := Lib.hid B1
      clear B1 cA
      go_wp2_with fail
      go_ret
      exact ⟨rfl, BB.out⟩
    | false =>
      rw [hb] at cA
      have hall : ∀ k ∈ kept, 0 ≤ k ∧ k < l.length := fun k hk' => by
        have : ¬ (k < 0 ∨ (l.length : Int) ≤ k) := fun h => by
          have h2 : kept.any (fun k => decide (k < 0 ∨ (l.length : Int) ≤ k)) = true := by rw [List.any_eq_true]; exact ⟨k, hk', by simpa using h⟩
          rw [hb] at h2
          cases h2
        omega
      have hhd : kept.headD 0 = kept.getD 0 0 := by
        cases kept with
        | nil => rfl
        | cons a r => rfl
      have hv' : leadI l kept old = if kept.any (fun k => decide (k = old)) = true ∧ (svAt l old.toNat).str ≤ (svAt l (kept.getD 0 0).toNat).str then old else kept.getD 0 0 := by
        rw [HV.out]
        unfold chooseI
        rw [if_neg HN.out, if_neg (by rw [hb]; simp), hhd]
      have hin0 := hall _ (getD_in hpos)
      obtain ⟨k0, hk0⟩ : ∃ k0, kept.getD 0 0 = k0 := ⟨_, rfl⟩
      rw [hk0] at hin0 hv'
      have HA := Lib.hid (And.intro hall hk0)
      have HV' := Lib.hid hv'
      have ip : (0 : Int) < kept.length := by omega
      clear hb hall hhd hv' hk0
      go_enter Try.func17, Try.ntmps17
      go_wp2_with fail
      (with_reducible refine cA.mono ?_)
      rintro e w1 ⟨rfl, B1⟩
      obtain ⟨bk, offk, rfl, z0⟩ := num_at18 SO.out.2 HF.out.2 B1 (q := 0) hpos
      rw [HA.out.2, Nat.add_zero] at z0
      obtain ⟨bl, offl, rfl, b0⟩ := str_at18 SO.out.1 HF.out.1 B1 hin0.1 hin0.2
      have cH : ∀ W : World, Below w.heap.size w W → Calls Try.prog 40 #[.slice (some ⟨bk, offk, none⟩) kept.length ck, .int .i64 old] W fun e w' => e = .returned (.bool (kept.any (fun k => decide (k = old)))) ∧ Below W.heap.size W w' := fun W hW => (ccon_any kept hk old W (SO.out.2.kept fun b hb => hW.block b (HF.out.2 b hb)) (fun b hb => Nat.lt_of_lt_of_le (HF.out.2 b hb) hW.size)).mono fun e w' h => ⟨h.1, h.2 ▸ Below.refl W.heap.size W⟩
      have cC := fun d os => Calls.regrown_of (cH (grow (redrawn w1 d) os) (B1.trans ((below_regrown w1 d os).mono B1.size)))
      clear cH
      have BB := Lib.hid B1
      obtain ⟨ik0, ik1⟩ := hin0
      obtain ⟨s0, hs0⟩ : ∃ s, (svAt l k0.toNat).str = s := ⟨_, rfl⟩
      rw [hs0] at b0
      have e0 := cell_regrown b0
      have HS0 := Lib.hid hs0
      clear cA hR hs0
      go_wp2_with fail
      cases hc : kept.any (fun k => decide (k = old)) with
      | false =>
        rw [hc] at cC
        have hv : leadI l kept old = k0 := by rw [HV'.out, hc]; simp
        have HL := Lib.hid hv
        clear hc hv z0 b0 B1
        refine wp_region_quiet_below (by kernel_rfl) (by kernel_rfl) ?_
        repeat (go_big_quiet_step (first | (with_reducible exact cC _ _) | (exact cC _ _)))
        refine wpQuiet_nil ?_
        intro W6 hw
        have BZ := Lib.hid (BB.out.trans ((again18 hw).mono BB.out.size))
        clear hw cC e0
        go_wp2_with fail
        go_ret
        exact ⟨by rw [HL.out]; rfl, BZ.out⟩
      | true =>
        rw [hc] at cC
        have hio : 0 ≤ old ∧ old < l.length := by
          obtain ⟨k, hk', e⟩ := List.any_eq_true.1 hc
          have e' : k = old := by simpa using e
          rw [← e']
          exact HA.out.1 k hk'
        obtain ⟨bl', offl', hxl', a0⟩ := str_at18 SO.out.1 HF.out.1 B1 hio.1 hio.2
        obtain ⟨rfl, rfl⟩ : bl = bl' ∧ offl = offl' := by simpa using hxl'
        have e1 := cell_regrown a0
        obtain ⟨io0, io1⟩ := hio
        have hv := HV'.out
        rw [hc, HS0.out] at hv
        obtain ⟨so, hso⟩ : ∃ s, (svAt l old.toNat).str = s := ⟨_, rfl⟩
        rw [hso] at hv e1
        clear hc z0 b0 a0 B1 hso hxl'
        by_cases h2 : so ≤ s0
        · have d2 : decide (so ≤ s0) = true := decide_eq_true h2
          rw [if_pos ⟨rfl, h2⟩] at hv
          have HL := Lib.hid hv
          clear hv h2
          refine wp_region_quiet_below (by kernel_rfl) (by kernel_rfl) ?_
          repeat (go_big_quiet_step (first | (with_reducible exact cC _ _) | (exact cC _ _)))
          refine wpQuiet_nil ?_
          intro W6 hw
          have BZ := Lib.hid (BB.out.trans ((again18 hw).mono BB.out.size))
          clear hw cC e0 e1
          go_wp2_with fail
          go_ret
          exact ⟨by rw [HL.out]; rfl, BZ.out⟩
        · have d2 : decide (so ≤ s0) = false := decide_eq_false h2
          rw [if_neg (fun h => h2 h.2)] at hv
          have HL := Lib.hid hv
          clear hv h2
          refine wp_region_quiet_below (by kernel_rfl) (by kernel_rfl) ?_
          repeat (go_big_quiet_step (first | (with_reducible exact cC _ _) | (exact cC _ _)))
          refine wpQuiet_nil ?_
          intro W6 hw
          have BZ := Lib.hid (BB.out.trans ((again18 hw).mono BB.out.size))
          clear hw cC e0 e1
          go_wp2_with fail
          go_ret
          exact ⟨by rw [HL.out]; rfl, BZ.out⟩
end Go.Proofs.Ytekdablolacgfaa.W

/- Layer 18's own code, walked: what those that are kept tell; a sum of what follows; all of it together. -/
namespace Go.Proofs.Ytekdablolacgfaa.W
open Go.RowKit Go.Sort
set_option linter.unusedVariables false
set_option linter.unusedSimpArgs false
set_option maxRecDepth 100000 in
set_option maxHeartbeats 25600000 in
theorem ctold_any (p : Pm) (tp : p.Typed) (l : List Sv) (tl : ∀ s ∈ l, s.Typed) (hl : l.length ≤ 60) (kept : List Int) (hk : kept.length ≤ 60) (hall : ∀ k ∈ kept, 0 ≤ k ∧ k < l.length) (at_ : Int) (a0 : -9223372036854775808 ≤ at_ ∧ at_ ≤ 9223372036854775807) {F G : Nat → Prop} {vl vk : Value} (w : World) (sl : SlAt F 11 svC w vl l) (sk : SlAt G 1 (oneE .i64) w vk kept) (hF : ∀ b, F b → b < w.heap.size) (hG : ∀ b, G b → b < w.heap.size) :
    Calls Try.prog 33 #[p.val, vl, vk, .int .i64 at_] w fun e w' => ∃ u v, e = .returned (.tuple #[u, v]) ∧ SlAt (fun b => w.heap.size ≤ b ∧ b < w'.heap.size) 1 (oneE .i64) w' u (offsC l kept) ∧ SlAt (fun b => w.heap.size ≤ b ∧ b < w'.heap.size) 1 (oneE .i64) w' v (distC p l kept at_) ∧ Below w.heap.size w w' := by
  obtain ⟨xl, cl, rfl⟩ := sl.slice
  obtain ⟨xk, ck, rfl⟩ := sk.slice
  obtain ⟨i0, hi0', hz0, hz1, hz2⟩ := info_parts info_i64_18
  have y0 := heap_alloc_new w (.cells (pmA p) 31)
  have B2 := (Below.refl w.heap.size w).alloc (Nat.le_refl _) (.cells (pmA p) 31)
  have z2 := World.size_alloc w (.cells (pmA p) 31)
  have SS := Lib.hid (And.intro sl sk)
  have HF := Lib.hid (And.intro hF hG)
  have HA := Lib.hid hall
  have HY := Lib.hid (And.intro y0 (And.intro B2 z2))
  clear sl sk hF hG y0 B2 z2 hall
  unfold pmA at *
  unfold Pm.val
  go_enter Try.func33, Try.ntmps33
  go_upto_region 1 with fail
  generalize w.alloc (.cells #[.int .i64 p.step, .int .i64 p.watch, .int .i64 p.panic, .int .i64 p.maxrate, .int .i64 p.phi, .int .i64 p.maxdist, .int .i64 p.gate, .int .i64 p.minpoll, .int .i64 p.maxpoll, .int .i64 p.burst, .int .i64 p.minsane, .int .i64 p.minleft] 31) = w2 at *
  have hap0 : Apa (.slice none 0 0) (.slice none 0 0) := fun b h1 h2 => by simp [Value.ownBlock] at h1
  have ownS : w2.ownsRow w2.heap.size 2 1 (.slice none 0 0) 0 [] := World.ownsRow_nil _ _ _ _
  have bS := Below.refl w2.heap.size w2
  go_wp2_with fail
  go_loopw [8, 9, 14] (fun o d i wr => ∃ q : Nat, q ≤ kept.length ∧ i = .int .i64 (q : Int) ∧ Apa o d ∧ wr.ownsRow w2.heap.size 2 1 o q (((offsC l kept).take q).flatMap (oneE .i64)) ∧ wr.ownsRow w2.heap.size 2 1 d q (((distC p l kept at_).take q).flatMap (oneE .i64)) ∧ Below w2.heap.size w2 wr) (fun _ _ i _ => kept.length - (intOf i).toNat)
  case atStart => exact ⟨0, Nat.zero_le _, rfl, hap0, by simpa using ownS, by simpa using ownS, bS⟩
  case round =>
    obtain ⟨q, hq, rfl, hap, own1, own2, hB⟩ := hrel
    clear ownS bS hap0
    have z1 := hB.size
    obtain ⟨y0, B2, zz2⟩ := HY.out
    have BWr := B2.trans (hB.mono (by omega))
    by_cases hlt2 : q < kept.length
    · have i1 : (q : Int) < kept.length := by omega
      have i0' : (0 : Int) ≤ (q : Int) := by omega
      obtain ⟨bk, offk, rfl, hbk, k0⟩ := num_in18 SS.out.2 (q := q) hlt2
      replace k0 := (BWr.cell (HF.out.2 bk hbk)).trans k0
      have hin := HA.out _ (getD_in hlt2)
      have hgd : kept[q]? = some (kept.getD q 0) := by simp [List.getD, hlt2]
      have hto : (offsC l kept)[q]? = some (svAt l (kept.getD q 0).toNat).t.off := by unfold offsC; rw [List.getElem?_map, hgd]; rfl
      have htd : (distC p l kept at_)[q]? = some (distI p (svAt l (kept.getD q 0).toNat) at_) := by unfold distC; rw [List.getElem?_map, hgd]; rfl
      have TK := Lib.hid (And.intro (take_snoc18 hto) (take_snoc18 htd))
      have hsy := tl _ (sv_in hin.1 hin.2)
      obtain ⟨bl, offl, rfl, lbl, hsv'⟩ := sv_cells18 SS.out.1 HF.out.1 BWr hin.1 hin.2
      generalize kept.getD q 0 = y at *
      obtain ⟨s0, s1, s2, s3, s4, s5, s6, s7, s8, s9, s10⟩ := sv_at18 (w := wr) (b := bl) (q := offl + y.toNat * 11) (s := svAt l y.toNat) hsv'
      have cD := tdist_any p tp (svAt l y.toNat) hsy at_ a0
      unfold Pm.val Sv.val at cD
      generalize svAt l y.toNat = sy at *
      generalize distI p sy at_ = dy at *
      have lbl2 : bl < w2.heap.size := by omega
      have iy0 := hin.1
      have iy1 := hin.2
      have HP := Lib.hid ((hB.block _ (by omega)).trans y0)
      have SV := Lib.hid hsv'
      have ZZ := Lib.hid zz2
      clear hto htd hgd hsy hsv' y0 B2 BWr hin zz2
      go_wp2_with (at_builtin; refine wpList_append_own_at _ rfl _ _ 22 rfl w2.heap.size 2 i0 _ 1 8 Try.underlying22 hi0' hz0 hz1 hz2 rfl (by decide) _ _ _ rfl (own1.alloc _) ⟨wr.heap.size, 0, none⟩ 1 1 [.int .i64 sy.t.off] rfl rfl (new_row15 _ _ _) (by intro u hu; simp at hu; subst hu; rfl) (by unfold maxLen; omega) (by omega) (by simp; omega) ?_; intro v4 w4 hown4 hgrow4 _ hat4; have own4 : w4.ownsRow w2.heap.size 2 1 v4 (q + 1) (((offsC l kept).take (q + 1)).flatMap (oneE .i64)) := (by rw [TK.out.1, List.flatMap_append]; exact hown4); have B4 := (hB.alloc z1 (.cells #[.int .i64 sy.t.off] 2)).grown hgrow4 (by simp; omega) (fun g hg => (own1.lt g hg).1); have z4 := B4.size; have p4 := (own2.alloc (.cells #[.int .i64 sy.t.off] 2)).kept hgrow4 (apart_ne hap); have ap4 := apart_left (H := wr.heap.size + 1) hap hat4 (by simp) (fun b hb => by have := (own2.lt b hb).2; omega))
      have hsv' := SV.out
      have q4 := p4.drew
      have r4 := own4.drew
      have BD4 : Below w2.heap.size w2 w4.drew := B4.drew
      have HS : ∀ W, Below w2.heap.size w2 W → (W.cell? ⟨w.heap.size, 0, none⟩ = some (.int .i64 p.step) ∧ W.cell? ⟨w.heap.size, 1, none⟩ = some (.int .i64 p.watch) ∧ W.cell? ⟨w.heap.size, 2, none⟩ = some (.int .i64 p.panic) ∧ W.cell? ⟨w.heap.size, 3, none⟩ = some (.int .i64 p.maxrate) ∧ W.cell? ⟨w.heap.size, 4, none⟩ = some (.int .i64 p.phi) ∧ W.cell? ⟨w.heap.size, 5, none⟩ = some (.int .i64 p.maxdist) ∧ W.cell? ⟨w.heap.size, 6, none⟩ = some (.int .i64 p.gate) ∧ W.cell? ⟨w.heap.size, 7, none⟩ = some (.int .i64 p.minpoll) ∧ W.cell? ⟨w.heap.size, 8, none⟩ = some (.int .i64 p.maxpoll) ∧ W.cell? ⟨w.heap.size, 9, none⟩ = some (.int .i64 p.burst) ∧ W.cell? ⟨w.heap.size, 10, none⟩ = some (.int .i64 p.minsane) ∧ W.cell? ⟨w.heap.size, 11, none⟩ = some (.int .i64 p.minleft) ∧ W.cell? ⟨bl, offl + y.toNat * 11, none⟩ = some (.int .i64 sy.leap) ∧ W.cell? ⟨bl, offl + y.toNat * 11 + 1, none⟩ = some (.int .i64 sy.str) ∧ W.cell? ⟨bl, offl + y.toNat * 11 + 2, none⟩ = some (.int .u32 sy.ref) ∧ W.cell? ⟨bl, offl + y.toNat * 11 + 3, none⟩ = some (.int .i64 sy.del) ∧ W.cell? ⟨bl, offl + y.toNat * 11 + 4, none⟩ = some (.int .i64 sy.disp) ∧ W.cell? ⟨bl, offl + y.toNat * 11 + 5, none⟩ = some (.int .i64 sy.t.off) ∧ W.cell? ⟨bl, offl + y.toNat * 11 + 6, none⟩ = some (.int .i64 sy.t.del) ∧ W.cell? ⟨bl, offl + y.toNat * 11 + 7, none⟩ = some (.int .i64 sy.t.disp) ∧ W.cell? ⟨bl, offl + y.toNat * 11 + 8, none⟩ = some (.int .i64 sy.t.jit) ∧ W.cell? ⟨bl, offl + y.toNat * 11 + 9, none⟩ = some (.int .i64 sy.t.at_) ∧ W.cell? ⟨bl, offl + y.toNat * 11 + 10, none⟩ = some (.int .u8 sy.reg)) := fun W bW => by
        have P4 : W.heap[w.heap.size]? = some (.cells (pmA p) 31 (0, 0)) := (bW.block _ (by have := ZZ.out; omega)).trans ((hB.block _ (by have := ZZ.out; omega)).symm.trans HP.out)
        unfold pmA at P4
        obtain ⟨n0, n1, n2, n3, n4, n5, n6, n7, n8, n9, n10, n11⟩ := twelve_in18 P4
        obtain ⟨t0, t1, t2, t3, t4, t5, t6, t7, t8, t9, t10⟩ := sv_at18 (w := W) (b := bl) (q := offl + y.toNat * 11) (s := sy) (fun j u hu => (bW.cell lbl2).trans ((hB.cell lbl2).symm.trans (hsv' j u hu)))
        exact ⟨n0, n1, n2, n3, n4, n5, n6, n7, n8, n9, n10, n11, t0, t1, t2, t3, t4, t5, t6, t7, t8, t9, t10⟩
      have R4 := Lib.hid (And.intro B4 z4)
      clear own1 own2 hap hown4 hgrow4 hat4 s0 s1 s2 s3 s4 s5 s6 s7 s8 s9 s10 hsv' B4 own4 p4
      have HZ := HS _ BD4
      go_region_held3 (fun W => W.cell? ⟨w.heap.size, 0, none⟩ = some (.int .i64 p.step) ∧ W.cell? ⟨w.heap.size, 1, none⟩ = some (.int .i64 p.watch) ∧ W.cell? ⟨w.heap.size, 2, none⟩ = some (.int .i64 p.panic) ∧ W.cell? ⟨w.heap.size, 3, none⟩ = some (.int .i64 p.maxrate) ∧ W.cell? ⟨w.heap.size, 4, none⟩ = some (.int .i64 p.phi) ∧ W.cell? ⟨w.heap.size, 5, none⟩ = some (.int .i64 p.maxdist) ∧ W.cell? ⟨w.heap.size, 6, none⟩ = some (.int .i64 p.gate) ∧ W.cell? ⟨w.heap.size, 7, none⟩ = some (.int .i64 p.minpoll) ∧ W.cell? ⟨w.heap.size, 8, none⟩ = some (.int .i64 p.maxpoll) ∧ W.cell? ⟨w.heap.size, 9, none⟩ = some (.int .i64 p.burst) ∧ W.cell? ⟨w.heap.size, 10, none⟩ = some (.int .i64 p.minsane) ∧ W.cell? ⟨w.heap.size, 11, none⟩ = some (.int .i64 p.minleft) ∧ W.cell? ⟨bl, offl + y.toNat * 11, none⟩ = some (.int .i64 sy.leap) ∧ W.cell? ⟨bl, offl + y.toNat * 11 + 1, none⟩ = some (.int .i64 sy.str) ∧ W.cell? ⟨bl, offl + y.toNat * 11 + 2, none⟩ = some (.int .u32 sy.ref) ∧ W.cell? ⟨bl, offl + y.toNat * 11 + 3, none⟩ = some (.int .i64 sy.del) ∧ W.cell? ⟨bl, offl + y.toNat * 11 + 4, none⟩ = some (.int .i64 sy.disp) ∧ W.cell? ⟨bl, offl + y.toNat * 11 + 5, none⟩ = some (.int .i64 sy.t.off) ∧ W.cell? ⟨bl, offl + y.toNat * 11 + 6, none⟩ = some (.int .i64 sy.t.del) ∧ W.cell? ⟨bl, offl + y.toNat * 11 + 7, none⟩ = some (.int .i64 sy.t.disp) ∧ W.cell? ⟨bl, offl + y.toNat * 11 + 8, none⟩ = some (.int .i64 sy.t.jit) ∧ W.cell? ⟨bl, offl + y.toNat * 11 + 9, none⟩ = some (.int .i64 sy.t.at_) ∧ W.cell? ⟨bl, offl + y.toNat * 11 + 10, none⟩ = some (.int .u8 sy.reg))
        (first
          | exact HS _ BD4
          | exact HS _ B5
          | exact HS _ (B5.alloc z5 _)
          | exact HS _ B6)
        (first
          | (go_at_call 55; (with_reducible refine (cD _).mono ?_); rintro e v1 ⟨rfl, g1⟩; have p5 := own_kept15 q4 g1; have r5 := own_kept15 r4 g1; have B5 := BD4.trans (g1.mono BD4.size); have z5 := B5.size)
          | (refine step_append_lies _ (by rfl) _ _ _ (by rfl) w2.heap.size 2 i0 _ 1 8 Try.underlying22 hi0' hz0 hz1 hz2 rfl (by decide) _ q (((distC p l kept at_).take q).flatMap (oneE .i64)) (by rfl) (p5.alloc _) ⟨v1.heap.size, 0, none⟩ 1 1 [.int .i64 dy] (by rfl) (by rfl) (World.news_of_block (cs := #[.int .i64 dy]) (t := 2) (fr := (0, 0)) (heap_alloc_new v1 _)) (by simp [Value.oneCell']) (by omega) (by unfold maxLen; omega) (by omega) (by simp; omega) (v1.heap.size + 1) (by simp) ?_; intro gg cp w6 hown6 hgrow6 hat6 hglt6; have B6 := (B5.alloc z5 (.cells #[.int .i64 dy] 2)).grown hgrow6 (by simp; omega) (fun g hg => (p5.lt g hg).1)))
      have own6 : w6.ownsRow w2.heap.size 2 1 (.slice (some ⟨gg, 0, none⟩) (q + 1) cp) (q + 1) (((distC p l kept at_).take (q + 1)).flatMap (oneE .i64)) := by rw [TK.out.2, List.flatMap_append]; exact hown6
      have r6 := (r5.alloc (.cells #[.int .i64 dy] 2)).kept hgrow6 (apart_ne (apart_symm ap4))
      have ap6 := apart_symm (apart_new (n := q + 1) (cp := cp) (apart_symm ap4) hat6 (fun b hb => by have := (r5.lt b hb).2; omega))
      have RR := Lib.hid (And.intro ap6 (And.intro r6 (And.intro own6 B6)))
      clear hown6 hgrow6 hat6 hglt6 own6 r6 ap6 B6 p5 r5 B5 z5 q4 r4 BD4 HS HZ R4 ap4 cD g1
      go_wp2_with fail
      go_roundw
      case rel => exact ⟨q + 1, by omega, by go_num, RR.out.1, RR.out.2.1, RR.out.2.2.1, RR.out.2.2.2⟩
      case measure => simp [intOf]; omega
    · have eq : q = kept.length := by omega
      subst eq
      have hO : (offsC l kept).take kept.length = offsC l kept := List.take_of_length_le (by simp [offsC])
      have hD : (distC p l kept at_).take kept.length = distC p l kept at_ := List.take_of_length_le (by simp [distC])
      rw [hO] at own1
      rw [hD] at own2
      have hlo : (offsC l kept).length = kept.length := by simp [offsC]
      have hld : (distC p l kept at_).length = kept.length := by simp [distC]
      have hT := SlAt.own (k := 1) (enc := oneE .i64) (l := offsC l kept) (fun _ => rfl) (by rw [hlo]; exact own1)
      have hU := SlAt.own (k := 1) (enc := oneE .i64) (l := distC p l kept at_) (fun _ => rfl) (by rw [hld]; exact own2)
      have i1 : ¬ (kept.length : Int) < kept.length := by omega
      have HT := Lib.hid (And.intro (hT.mono (G := fun b => w.heap.size ≤ b ∧ b < wr.heap.size) fun b hb => ⟨by omega, hb.2⟩) (And.intro (hU.mono (G := fun b => w.heap.size ≤ b ∧ b < wr.heap.size) fun b hb => ⟨by omega, hb.2⟩) BWr))
      clear hT hU own1 own2 hap hB zz2 y0 B2 BWr hO hD z1
      go_wp2_with fail
      refine bodyPost_ret (v := .tuple #[u8, u9]) ?_ rfl ⟨_, _, rfl, HT.out.1, HT.out.2.1, HT.out.2.2⟩
      simp [results, Try.results33, go_sem]
def addL (a : Int) (L : List Int) : Int := L.foldl addI a
theorem addL_step {a : Int} {L : List Int} {q : Nat} (h : q < L.length) : addL a (L.take (q + 1)) = addI (addL a (L.take q)) (L.getD q 0) := by
  unfold addL
  rw [take_snoc18 (x := L.getD q 0) (by simp [List.getD, h]), List.foldl_append]
  rfl
theorem addL_range {a : Int} (a0 : -9223372036854775808 ≤ a ∧ a ≤ 9223372036854775807) (L : List Int) : -9223372036854775808 ≤ addL a L ∧ addL a L ≤ 9223372036854775807 := by
  rcases List.eq_nil_or_concat L with rfl | ⟨M, x, rfl⟩
  · exact a0
  · rw [List.concat_eq_append]
    unfold addL
    rw [List.foldl_append]
    exact addI18 _ _
set_option maxRecDepth 100000 in
set_option maxHeartbeats 6400000 in
theorem csum_any (a : Int) (a0 : -9223372036854775808 ≤ a ∧ a ≤ 9223372036854775807) (L : List Int) (hL : L.length ≤ 60) (tL : ∀ x ∈ L, -9223372036854775808 ≤ x ∧ x ≤ 9223372036854775807) {F : Nat → Prop} {v : Value} (w : World) (hs : SlAt F 1 (oneE .i64) w v L) (hF : ∀ b, F b → b < w.heap.size) :
    Calls Try.prog 35 #[.int .i64 a, v] w fun e w' => e = .returned (.int .i64 (addL a L)) ∧ w = w' := by
  have HS := Lib.hid hs
  have HT := Lib.hid tL
  obtain ⟨xk, ck, rfl⟩ := hs.slice
  clear hs hF tL
  go_enter Try.func35, Try.ntmps35
  go_wp2_with fail
  go_loopw [0, 9] (fun s i wr => ∃ q : Nat, q ≤ L.length ∧ i = .int .i64 (q : Int) ∧ s = .int .i64 (addL a (L.take q)) ∧ w = wr) (fun _ i _ => L.length - (intOf i).toNat)
  case atStart => exact ⟨0, Nat.zero_le _, rfl, by rw [List.take_zero]; rfl, rfl⟩
  case round =>
    obtain ⟨q, hq, rfl, rfl, rfl⟩ := hrel
    by_cases hlt : q < L.length
    · have i1 : (q : Int) < L.length := by omega
      have i0 : (0 : Int) ≤ (q : Int) := by omega
      obtain ⟨b, off, rfl, _, x0⟩ := num_in18 HS.out (q := q) hlt
      have hst := addL_step (a := a) hlt
      have ry := HT.out _ (getD_in hlt)
      have rs := addL_range a0 (L.take q)
      generalize L.getD q 0 = y at *
      generalize addL a (L.take q) = s at *
      have cA := add_any s y rs.1 rs.2 ry.1 ry.2
      rw [← hst] at cA
      clear hst
      go_wp2_with fail
      (with_reducible refine (cA _).mono ?_)
      rintro e w2 ⟨rfl, rfl⟩
      go_wp2_with fail
      go_roundw
      case rel => exact ⟨q + 1, by omega, by go_num, rfl, trivial⟩
      case measure => simp [intOf]; omega
    · have eq : q = L.length := by omega
      subst eq
      have i3 : ¬ (L.length : Int) < (L.length : Int) := by omega
      rw [List.take_length]
      go_wp2_with fail
      go_ret
      exact ⟨rfl, rfl⟩
theorem lead_neg {l : List Sv} {kept : List Int} {old : Int} (h : leadI l kept old < 0) : leadI l kept old = -1 := by
  by_cases g1 : kept = []
  · unfold leadI chooseI
    rw [if_pos g1]
  · by_cases g2 : kept.any (fun k => decide (k < 0 ∨ (l.length : Int) ≤ k)) = true
    · unfold leadI chooseI
      rw [if_neg g1, if_pos g2]
    · exfalso
      have hall : ∀ k ∈ kept, 0 ≤ k := fun k hk => by
        have : ¬ (k < 0 ∨ (l.length : Int) ≤ k) := fun hb => g2 (by rw [List.any_eq_true]; exact ⟨k, hk, by simpa using hb⟩)
        omega
      unfold leadI chooseI at h
      rw [if_neg g1, if_neg g2] at h
      split at h
      · rename_i g3
        obtain ⟨k, hk, e⟩ := List.any_eq_true.1 g3.1
        have := hall k hk
        have e' : k = old := by simpa using e
        omega
      · cases kept with
        | nil => exact absurd rfl g1
        | cons a r =>
          have := hall a List.mem_cons_self
          simp at h
          omega
end Go.Proofs.Ytekdablolacgfaa.W

/- Layer 18's own code, walked: all of it together. -/
namespace Go.Proofs.Ytekdablolacgfaa.W
open Go.RowKit Go.Sort
set_option linter.unusedVariables false
set_option linter.unusedSimpArgs false
theorem comb_range (p : Pm) (l : List Sv) (kept : List Int) (lo hi at_ : Int) : -9223372036854775808 ≤ combOff p l kept lo hi at_ ∧ combOff p l kept lo hi at_ ≤ 9223372036854775807 := by
  unfold combOff meanC clampI
  exact ⟨Int.le_trans (by decide) (cutI_range _).1, (cutI_range _).2⟩
theorem num_in18u {F : Nat → Prop} {w : World} {x : Option Addr} {c : Nat} {l : List Int} {q : Nat} (h : SlAt F 1 (oneE .u32) w (.slice x l.length c) l) (hq : q < l.length) :
    ∃ b off, x = some ⟨b, off, none⟩ ∧ F b ∧ w.cell? ⟨b, off + q, none⟩ = some (.int .u32 (l.getD q 0)) := by
  rcases h with ⟨_, _, _, _, rfl⟩ | ⟨b, off, cap, hv, hb, hc⟩
  · simp at hq
  · obtain ⟨rfl, _⟩ := Value.slice.inj hv
    refine ⟨b, off, rfl, hb, ?_⟩
    have hx : l[q]? = some (l.getD q 0) := by simp [List.getD, hq]
    have := hc q _ hx 0 _ rfl
    simpa using this
theorem four_lit18 {w : World} {b : Nat} {x0 x1 x2 x3 : Int} {t : TypeId} (h : w.heap[b]? = some (.cells #[.int .i64 x0, .int .i64 x1, .int .i64 x2, .int .i64 x3] t (0, 0))) : SlAt (fun c => c = b) 1 (oneE .i64) w (.slice (some ⟨b, 0, none⟩) 4 4) [x0, x1, x2, x3] := by
  refine .inr ⟨b, 0, 4, rfl, rfl, fun i z hz j u hu => ?_⟩
  have hj : j = 0 := by have := (List.getElem?_eq_some_iff.1 hu).1; simp [oneE] at this; exact this
  subst hj
  simp [oneE] at hu
  subst hu
  match i, hz with
  | 0, hz => simp at hz; subst hz; simp [World.cell?, h]
  | 1, hz => simp at hz; subst hz; simp [World.cell?, h]
  | 2, hz => simp at hz; subst hz; simp [World.cell?, h]
  | 3, hz => simp at hz; subst hz; simp [World.cell?, h]
theorem sva_at18 {w : World} {b : Nat} {x : Sv} {t : TypeId} (h : w.heap[b]? = some (.cells (svA x) t (0, 0))) :
    w.cell? ⟨b, 0, none⟩ = some (.int .i64 x.leap) ∧ w.cell? ⟨b, 1, none⟩ = some (.int .i64 x.str) ∧ w.cell? ⟨b, 3, none⟩ = some (.int .i64 x.del) ∧ w.cell? ⟨b, 4, none⟩ = some (.int .i64 x.disp) ∧ w.cell? ⟨b, 6, none⟩ = some (.int .i64 x.t.del) ∧ w.cell? ⟨b, 7, none⟩ = some (.int .i64 x.t.disp) ∧ w.cell? ⟨b, 8, none⟩ = some (.int .i64 x.t.jit) ∧ w.cell? ⟨b, 9, none⟩ = some (.int .i64 x.t.at_) := by
  unfold svA at h
  refine ⟨?_, ?_, ?_, ?_, ?_, ?_, ?_, ?_⟩ <;> simp [World.cell?, h]
set_option maxRecDepth 100000 in
set_option maxHeartbeats 25600000 in
theorem ccomb_any (p : Pm) (tp : p.Typed) (l : List Sv) (tl : ∀ s ∈ l, s.Typed) (hl : l.length ≤ 60) (ids : List Int) (hi0 : ids.length ≤ 60) (ti : ∀ x ∈ ids, 0 ≤ x ∧ x ≤ 4294967295) (kept : List Int) (hk : kept.length ≤ 60) (tk : ∀ x ∈ kept, -9223372036854775808 ≤ x ∧ x ≤ 9223372036854775807) (old lo hi at_ : Int) (o0 : -9223372036854775808 ≤ old ∧ old ≤ 9223372036854775807) (l0 : -9223372036854775808 ≤ lo ∧ lo ≤ 9223372036854775807) (h0 : -9223372036854775808 ≤ hi ∧ hi ≤ 9223372036854775807) (a0 : -9223372036854775808 ≤ at_ ∧ at_ ≤ 9223372036854775807) {F G H : Nat → Prop} {vl vi vk : Value} (w : World) (sl : SlAt F 11 svC w vl l) (si : SlAt H 1 (oneE .u32) w vi ids) (sk : SlAt G 1 (oneE .i64) w vk kept) (hF : ∀ b, F b → b < w.heap.size) (hG : ∀ b, G b → b < w.heap.size) (hH : ∀ b, H b → b < w.heap.size) :
    Calls Try.prog 15 #[p.val, vl, vi, vk, .int .i64 old, .agg #[.int .i64 lo, .int .i64 hi], .int .i64 at_] w fun e w' => e = .returned (.tuple #[(combY p l ids kept old lo hi at_).val, .bool (combB l ids kept old)]) ∧ Below w.heap.size w w' := by
  obtain ⟨xl, cl, rfl⟩ := sl.slice
  obtain ⟨xi, ci, rfl⟩ := si.slice
  obtain ⟨xk, ck, rfl⟩ := sk.slice
  obtain ⟨w0, hw0⟩ : ∃ W, ((w.alloc (.cells (pmA p) 31)).alloc (.cells #[.int .i64 lo, .int .i64 hi] 24)).alloc (.cells #[.int .i64 0, .int .i64 0, .int .u32 0, .int .i64 0, .int .i64 0, .int .i64 0, .int .i64 0, .int .i64 0] 39) = W := ⟨_, rfl⟩
  obtain ⟨x0, x1, x2, B0, z0⟩ := three_new18 _ _ _ _ _ _ _ _ hw0
  have cC := cchoose_any l tl hl kept hk tk old o0 w0 (sl.kept fun b hb => B0.block b (hF b hb)) (sk.kept fun b hb => B0.block b (hG b hb)) (fun b hb => Nat.lt_of_lt_of_le (hF b hb) B0.size) (fun b hb => Nat.lt_of_lt_of_le (hG b hb) B0.size)
  have X := Lib.hid (And.intro x0 (And.intro x1 (And.intro x2 (And.intro B0 z0))))
  have SS := Lib.hid (And.intro sl (And.intro si sk))
  have HF := Lib.hid (And.intro hF (And.intro hG hH))
  clear x0 x1 x2 B0 z0 sl si sk hF hG hH
  unfold pmA at hw0
  unfold Pm.val
  by_cases g1 : leadI l kept old < 0
  · have g0 := lead_neg g1
    have hb : combB l ids kept old = false := by unfold combB; rw [decide_eq_false]; omega
    have hy : combY p l ids kept old lo hi at_ = Sy.zero := by unfold combY; rw [hb]; rfl
    rw [hb, hy]
    rw [g0] at cC
    unfold Sy.val Sy.cells Sy.zero
    dsimp only
    clear hb hy g0 g1
    go_enter Try.func15, Try.ntmps15
    go_wp2_with (rw [hw0])
    (with_reducible refine cC.mono ?_)
    rintro e w1 ⟨rfl, B1⟩
    obtain ⟨x0, x1, x2, B0, z0⟩ := X.out
    have y2 := (B1.block _ (by omega)).trans x2
    have BW := B0.trans (B1.mono (by omega))
    obtain ⟨⟨c0, c1, c2, c3, c4, c5, c6, c7⟩, fr⟩ := eight_in18 y2
    have HY := Lib.hid (And.intro y2 BW)
    clear x0 x1 x2 B0 z0 B1 y2 BW cC X
    go_wp2_with fail
    obtain ⟨y2, BW⟩ := HY.out
    have C1 := put8_at (a0 := .int .i64 0) (a1 := .int .i64 0) (a2 := .int .u32 0) (a3 := .int .i64 0) (a4 := .int .i64 0) (a5 := .int .i64 0) (a6 := .int .i64 0) (a7 := .int .i64 0) y2
    have BF := put8_below BW (w.heap.size + 1 + 1) (by omega) (.int .i64 0) (.int .i64 0) (.int .u32 0) (.int .i64 0) (.int .i64 0) (.int .i64 0) (.int .i64 0) (.int .i64 0)
    clear c0 c1 c2 c3 c4 c5 c6 c7 fr
    obtain ⟨⟨c0, c1, c2, c3, c4, c5, c6, c7⟩, _⟩ := eight_in18 C1
    unfold put8 at *
    refine bodyPost_ret (v := .tuple #[.agg #[.int .i64 0, .int .i64 0, .int .u32 0, .int .i64 0, .int .i64 0, .int .i64 0, .int .i64 0, .int .i64 0], .bool false]) ?_ rfl ⟨rfl, BF⟩
    simp [results, Try.results15, go_sem, c0, c1, c2, c3, c4, c5, c6, c7]
  · have d1 : (leadI l kept old == -1) = false := beq_eq_false_iff_ne.2 (by omega)
    by_cases g2 : ids.length = l.length
    · have d2 : ((ids.length : Int) == (l.length : Int)) = true := by rw [g2]; exact beq_self_eq_true _
      have d3 : ((ids.length : Int) != (l.length : Int)) = false := by rw [g2]; simp
      have hb : combB l ids kept old = true := by unfold combB; rw [decide_eq_true]; exact ⟨by omega, g2⟩
      obtain ⟨hlt, hall⟩ := lead_in (l := l) (kept := kept) (old := old) (by omega)
      have hge : 0 ≤ leadI l kept old := by omega
      have hy : combY p l ids kept old lo hi at_ = ⟨(svAt l (leadI l kept old).toNat).leap, min (svAt l (leadI l kept old).toNat).str 999 + 1, ids.getD (leadI l kept old).toNat 0, combOff p l kept lo hi at_,
          combJit p l kept (svAt l (leadI l kept old).toNat) lo hi at_, addI (svAt l (leadI l kept old).toNat).del (svAt l (leadI l kept old).toNat).t.del,
          combDisp p (svAt l (leadI l kept old).toNat) at_ (combJit p l kept (svAt l (leadI l kept old).toNat) lo hi at_) (combOff p l kept lo hi at_), leadI l kept old⟩ := by unfold combY; rw [if_pos hb]
      rw [hb, hy]
      unfold Sy.val Sy.cells
      dsimp only
      have tx := tl _ (sv_in hge hlt)
      obtain ⟨bl, offl, rfl, lbl, hsv⟩ := sv_cells18 SS.out.1 HF.out.1 (Below.refl w.heap.size w) hge hlt
      generalize leadI l kept old = ld at *
      generalize svAt l ld.toNat = x at *
      have HA := Lib.hid hall
      have TX := Lib.hid tx
      obtain ⟨ms, hms⟩ : ∃ m, min x.str 999 = m := ⟨_, rfl⟩
      obtain ⟨idv, hidv⟩ : ∃ m, ids.getD ld.toNat 0 = m := ⟨_, rfl⟩
      obtain ⟨mo, hmo⟩ : ∃ m, combOff p l kept lo hi at_ = m := ⟨_, rfl⟩
      obtain ⟨mj, hmj⟩ : ∃ m, combJit p l kept x lo hi at_ = m := ⟨_, rfl⟩
      obtain ⟨dl, hdl⟩ : ∃ m, addI x.del x.t.del = m := ⟨_, rfl⟩
      obtain ⟨dp, hdp⟩ : ∃ m, combDisp p x at_ mj mo = m := ⟨_, rfl⟩
      rw [hms, hidv, hmo, hmj, hdl, hdp]
      have HM := Lib.hid (And.intro hms (And.intro hidv (And.intro hmo (And.intro hmj (And.intro hdl hdp)))))
      clear hms hidv hmo hmj hdl hdp hb hy hall tx
      go_enter Try.func15, Try.ntmps15
      go_wp2_with (rw [hw0])
      (with_reducible refine cC.mono ?_)
      rintro e w1 ⟨rfl, B1⟩
      obtain ⟨x0, x1, x2, B0, z0⟩ := X.out
      have BW1 := B0.trans (B1.mono (by omega))
      have y0 := (B1.block _ (by omega)).trans x0
      have y1 := (B1.block _ (by omega)).trans x1
      have y2 := (B1.block _ (by omega)).trans x2
      have lw1 : w.heap.size + 3 ≤ w1.heap.size := by have := B1.size; omega
      obtain ⟨s0, s1, s2, s3, s4, s5, s6, s7, s8, s9, s10⟩ := sv_at18 (w := w1) (b := bl) (q := offl + ld.toNat * 11) (s := x) (fun j u hu => by rw [BW1.cell lbl]; exact hsv j u hu)
      have hx2 := heap_alloc_new w1 (.cells (svA x) 57)
      have B2 := (Below.refl w1.heap.size w1).alloc (Nat.le_refl _) (.cells (svA x) 57)
      have z2 := World.size_alloc w1 (.cells (svA x) 57)
      have HY := Lib.hid (And.intro ((B2.block _ (by omega)).trans y0) (And.intro ((B2.block _ (by omega)).trans y1) (And.intro ((B2.block _ (by omega)).trans y2) (And.intro hx2 (And.intro (BW1.trans (B2.mono (by omega))) (And.intro lw1 z2))))))
      clear x0 x1 x2 B0 z0 B1 y0 y1 y2 BW1 lw1 cC X hx2 B2 z2
      go_upto_region 5 with fail
      generalize w1.alloc (.cells (svA x) 57) = w2 at *
      clear s0 s1 s2 s3 s4 s5 s6 s7 s8 s9 s10
      obtain ⟨y0, y1, y2, yx, BW2, lw1, z2⟩ := HY.out
      have cT := ctold_any p tp l tl hl kept hk HA.out at_ a0 w2 (SS.out.1.kept fun b hb => BW2.block b (HF.out.1 b hb)) (SS.out.2.2.kept fun b hb => BW2.block b (HF.out.2.1 b hb)) (fun b hb => Nat.lt_of_lt_of_le (HF.out.1 b hb) BW2.size) (fun b hb => Nat.lt_of_lt_of_le (HF.out.2.1 b hb) BW2.size)
      unfold Pm.val at cT
      unfold pmA at y0
      obtain ⟨n0, n1, n2, n3, n4, n5, n6, n7, n8, n9, n10, n11⟩ := twelve_in18 y0
      clear y0 y1 y2 yx BW2 lw1 z2
      go_wp2_with fail
      (with_reducible refine cT.mono ?_)
      rintro e w3 ⟨u, v, rfl, hu, hv, B3⟩
      obtain ⟨ux, uc, rfl⟩ := hu.slice
      obtain ⟨vx, vc, rfl⟩ := hv.slice
      obtain ⟨y0, y1, y2, yx, BW2, lw1, z2⟩ := HY.out
      have hlo : (offsC l kept).length = kept.length := by simp [offsC]
      have hld : (distC p l kept at_).length = kept.length := by simp [distC]
      rw [hlo] at hu
      rw [hld] at hv
      obtain ⟨s0, s1⟩ := two_at18 ((B3.block _ (by omega)).trans y1)
      have cM : Calls Try.prog 8 #[.slice ux kept.length uc, .slice vx kept.length vc, .agg #[.int .i64 lo, .int .i64 hi]] w3 fun e w' => e = .returned (.int .i64 mo) ∧ Below w3.heap.size w3 w' := by
        rw [← HM.out.2.2.1]
        exact cmean18_any (offsC l kept) (distC p l kept at_) (by omega) (by omega) (offs_i64 l kept tl) (dist_i64 p l kept at_) lo hi l0 h0 w3 hu hv (fun b hb => hb.2) (fun b hb => hb.2)
      have HT := Lib.hid (And.intro hu (And.intro hv B3))
      clear n0 n1 n2 n3 n4 n5 n6 n7 n8 n9 n10 n11 cT hu hv B3 y0 y1 y2 yx BW2 lw1 z2
      go_wp2_with fail
      (with_reducible refine cM.mono ?_)
      rintro e w4 ⟨rfl, B4⟩
      obtain ⟨y0, y1, y2, yx, BW2, lw1, z2⟩ := HY.out
      have G4 := HT.out.2.2.trans (B4.mono HT.out.2.2.size)
      have z3 := HT.out.2.2.size
      have z4 := G4.size
      obtain ⟨jj, hjj⟩ : ∃ j, jitC (offsC l kept) (distC p l kept at_) mo = j := ⟨_, rfl⟩
      have hmx : max jj x.t.jit = mj := by rw [← hjj, ← HM.out.2.2.1]; exact HM.out.2.2.2.1
      have f2 := fun ts t W => run_max18 .i64 jj x.t.jit mj hmx ts t W
      have imo := comb_range p l kept lo hi at_
      rw [HM.out.2.2.1] at imo
      have cJ := fun d os => Calls.regrown_of (cjit_any (offsC l kept) (distC p l kept at_) (by omega) (by omega) (offs_i64 l kept tl) (dist_i64 p l kept at_) mo imo (grow (redrawn w4 d) os) (HT.out.1.kept (fun b hb => (B4.trans ((below_regrown w4 d os).mono B4.size)).block b hb.2)) (HT.out.2.1.kept (fun b hb => (B4.trans ((below_regrown w4 d os).mono B4.size)).block b hb.2)) (fun b hb => Nat.lt_of_lt_of_le hb.2 (B4.trans ((below_regrown w4 d os).mono B4.size)).size) (fun b hb => Nat.lt_of_lt_of_le hb.2 (B4.trans ((below_regrown w4 d os).mono B4.size)).size))
      rw [hjj] at cJ
      have ijj := jitC18 (offsC l kept) (distC p l kept at_) mo
      rw [hjj] at ijj
      have tj := TX.out.t.jit
      have MJ := Lib.hid (show -9223372036854775808 ≤ mj ∧ mj ≤ 9223372036854775807 by omega)
      have MO := Lib.hid imo
      obtain ⟨q0, q1, q3, q4, q6, q7, q8, q9⟩ := sva_at18 ((G4.block _ (by omega)).trans yx)
      have k8 := cell_regrown q8
      have H4 := Lib.hid G4
      clear s0 s1 cM B4 G4 hjj hmx imo ijj tj q0 q1 q3 q4 q6 q7 q8 q9 y0 y1 y2 yx BW2 lw1 z2 z3 z4
      go_wp2_with fail
      refine wp_region_quiet_below (by kernel_rfl) (by kernel_rfl) ?_
      repeat (go_big_quiet_step (first | (with_reducible exact cJ _ _) | (exact cJ _ _)))
      refine wpQuiet_nil ?_
      intro W6 hw
      replace hw := again18 hw
      obtain ⟨y0, y1, y2, yx, BW2, lw1, z2⟩ := HY.out
      have G6 := H4.out.trans (hw.mono H4.out.size)
      have z6 := G6.size
      have isb := subI18 at_ x.t.at_
      have cS := sub_any at_ x.t.at_ a0.1 a0.2 TX.out.t.at_.1 TX.out.t.at_.2
      obtain ⟨sb, hsb⟩ : ∃ s, subI at_ x.t.at_ = s := ⟨_, rfl⟩
      rw [hsb] at cS isb
      obtain ⟨m0, hm0⟩ : ∃ m, max 0 sb = m := ⟨_, rfl⟩
      have hm0' : max sb 0 = m0 := by omega
      have f3 := fun ts t W => run_max18 .i64 sb 0 m0 hm0' ts t W
      have cM := fmul_any p.phi m0 tp.phi.1 tp.phi.2 (by omega) (by omega)
      have imu := mulI18 p.phi m0
      obtain ⟨mu, hmu⟩ : ∃ m, mulI p.phi m0 = m := ⟨_, rfl⟩
      rw [hmu] at cM imu
      unfold pmA at y0
      obtain ⟨n0, n1, n2, n3, n4, n5, n6, n7, n8, n9, n10, n11⟩ := twelve_in18 ((G6.block _ (by omega)).trans y0)
      obtain ⟨q0, q1, q3, q4, q6, q7, q8, q9⟩ := sva_at18 ((G6.block _ (by omega)).trans yx)
      have k4 := cell_regrown n4
      have k9 := cell_regrown q9
      have e1 := fun d os => (Calls.regrown_of ((cS (grow (redrawn W6 d) os)).mono fun e w' h => And.intro h.1 (h.2 ▸ Below.refl _ _)))
      have e2 := fun d os => (Calls.regrown_of (cM (grow (redrawn W6 d) os)))
      have HQ := Lib.hid (And.intro hsb (And.intro hm0 (And.intro hmu imu)))
      have H6 := Lib.hid G6
      clear hw G6 z6 isb cS hsb hm0 hm0' cM imu hmu n0 n1 n2 n3 n4 n5 n6 n7 n8 n9 n10 n11 q0 q1 q3 q4 q6 q7 q8 q9 cJ k8 f2 H4 y0 y1 y2 yx BW2 lw1 z2
      go_wp2_with fail
      refine wp_region_quiet_below (by kernel_rfl) (by kernel_rfl) ?_
      repeat (go_big_quiet_step (first | (with_reducible exact e1 _ _) | (with_reducible exact e2 _ _) | (exact e1 _ _) | (exact e2 _ _)))
      refine wpQuiet_nil ?_
      intro W8 hw
      replace hw := again18 hw
      obtain ⟨y0, y1, y2, yx, BW2, lw1, z2⟩ := HY.out
      have G8 := H6.out.trans (hw.mono H6.out.size)
      have z8 := G8.size
      have BW8 := BW2.trans (G8.mono (by omega))
      obtain ⟨q0, q1, q3, q4, q6, q7, q8, q9⟩ := sva_at18 ((G8.block _ (by omega)).trans yx)
      obtain ⟨bi, offi, rfl, hbi, ci⟩ := num_in18u SS.out.2.1 (q := ld.toNat) (by rw [g2]; omega)
      have lbi := HF.out.2.2 bi hbi
      rw [HM.out.2.1] at ci
      have ci0 := (BW8.cell lbi).trans ci
      have ysys := (G8.block (w.heap.size + 1 + 1) (by omega)).trans y2
      have f1 := fun ts t W => run_min18 .i64 x.str 999 ms HM.out.1 ts t W
      have hw1 : IntKind.i64.wrap (ms + 1) = ms + 1 := IntWalk.i64_in _ (by have := HM.out.1; have := TX.out.str; omega)
      have cA := add_any x.del x.t.del TX.out.del.1 TX.out.del.2 TX.out.t.del.1 TX.out.t.del.2
      rw [HM.out.2.2.2.2.1] at cA
      have cB := abs_any mo MO.out.1 MO.out.2
      have iab := absI18 mo
      obtain ⟨ab, hab⟩ : ∃ a, absI mo = a := ⟨_, rfl⟩
      rw [hab] at cB iab
      have hdp : addL x.disp [x.t.disp, mu, mj, ab] = dp := by
        rw [← HM.out.2.2.2.2.2, ← hab, ← HQ.out.2.2.1, ← HQ.out.2.1, ← HQ.out.1]
        rfl
      have r0 := cell_regrown q0
      have r1 := cell_regrown q1
      have r3 := cell_regrown q3
      have r4 := cell_regrown q4
      have r6 := cell_regrown q6
      have r7 := cell_regrown q7
      have ri := cell_regrown ci0
      have HV := Lib.hid (And.intro ysys (And.intro BW8 (And.intro z8 (And.intro lw1 z2))))
      have HI := Lib.hid (And.intro iab hdp)
      clear hw q0 q1 q3 q4 q6 q7 q8 q9 ci ci0 ysys iab hab hdp BW8 e1 e2 k4 k9 f3 y0 y1 y2 yx BW2 lw1 z2 G8 z8 H6 lbi hbi
      go_wp2_with fail
      refine wp_region_noPanic ?_
      refine wp_region_pick (S := fun v => ∃ p : Regrown, v = grow (redrawn W8 p.d) p.os) 31 3 [0, 1, 2, 3, 4, 5, 6, 7, 8, 9, 10, 11, 12, 13, 14, 15, 16, 17, 18, 19, 20, 21, 22, 23, 24, 25, 26, 29] (by kernel_rfl) (by kernel_rfl) (fun _ _ _ _ _ h => h) ⟨⟨W8.drawn + 1, #[]⟩, by rw [grow_empty]; rfl⟩ ?_
      simp only [List.filterMap_cons, List.filterMap_nil, List.getElem?_toArray, List.getElem?_cons_succ, List.getElem?_cons_zero]
      -- (wpS_step)
      repeat (refine wpS_step (fun K hK => ?_); go_simp; first | (refine hK _ ?_; clear hK K) | (apply Exists.intro; refine ⟨fun _ => ?_, hK _ ?_⟩; (first | exact (cA _).mono (fun e w' h => ⟨h.1, h.2.symm⟩) | exact (cB _).mono (fun e w' h => ⟨h.1, h.2.symm⟩)); clear hK K))
      refine wpS_nil ?_
      intro W9 hw
      replace hw := again18 hw
      have zw := hw.size
      obtain ⟨ysys, BW8, z8, lw1, z2⟩ := HV.out
      have v9 := (hw.block (w.heap.size + 1 + 1) (by omega)).trans ysys
      have v10 := (Below.heap_alloc W9 (.cells #[.int .i64 x.t.disp, .int .i64 mu, .int .i64 mj, .int .i64 ab] 2) (w.heap.size + 1 + 1) (by omega)).trans v9
      have B9 := BW8.trans (hw.mono (by omega))
      have B10 := B9.alloc (by omega) (.cells #[.int .i64 x.t.disp, .int .i64 mu, .int .i64 mj, .int .i64 ab] 2)
      have hw10 := hw.alloc zw (.cells #[.int .i64 x.t.disp, .int .i64 mu, .int .i64 mj, .int .i64 ab] 2)
      have cS := csum_any x.disp TX.out.disp [x.t.disp, mu, mj, ab] (by simp) (by
        intro y hy
        simp only [List.mem_cons, List.not_mem_nil, or_false] at hy
        rcases hy with rfl | rfl | rfl | rfl
        · exact TX.out.t.disp
        · exact HQ.out.2.2.2
        · exact MJ.out
        · exact HI.out.1) (W9.alloc (.cells #[.int .i64 x.t.disp, .int .i64 mu, .int .i64 mj, .int .i64 ab] 2)) (four_lit18 (heap_alloc_new W9 (.cells #[.int .i64 x.t.disp, .int .i64 mu, .int .i64 mj, .int .i64 ab] 2))) (fun b hb => by subst hb; simp)
      rw [HI.out.2] at cS
      have H9 := Lib.hid (And.intro v10 B10)
      clear hw ysys BW8 z8 lw1 z2 v9 v10 B9 B10 r0 r1 r3 r4 r6 r7 ri f1 cA cB
      refine headS_only (i := 27) (by kernel_rfl) rfl (fun K hK => ?_)
      go_simp
      refine hK _ _ (regrown_of_below hw10) ?_
      clear hK K
      generalize hW10 : W9.alloc (.cells #[.int .i64 x.t.disp, .int .i64 mu, .int .i64 mj, .int .i64 ab] 2) = W10 at *
      refine headS_only (i := 28) (by kernel_rfl) rfl (fun K hK => ?_)
      go_simp
      (with_reducible refine cS.mono ?_)
      rintro e v1 ⟨rfl, rfl⟩
      refine hK _ _ (regrown_of_below hw10) ?_
      clear hK K cS
      refine headS_only (i := 30) (by kernel_rfl) rfl (fun K hK => ?_)
      go_simp
      refine hK _ _ (regrown_of_below hw10) ?_
      obtain ⟨v10, B10⟩ := H9.out
      obtain ⟨⟨c0, c1, c2, c3, c4, c5, c6, c7⟩, fr⟩ := eight_in18 v10
      clear hK K hw10 v10 B10
      refine ⟨by kernel_rfl, ?_⟩
      simp only [List.drop_succ_cons, List.drop_zero]
      go_wp2_with fail
      refine NoPanic.normal ?_
      go_wp2_with fail
      obtain ⟨v10, B10⟩ := H9.out
      have C1 := put8_at (a0 := .int .i64 x.leap) (a1 := .int .i64 (ms + 1)) (a2 := .int .u32 idv) (a3 := .int .i64 mo) (a4 := .int .i64 mj) (a5 := .int .i64 dl) (a6 := .int .i64 dp) (a7 := .int .i64 ld) v10
      have BF := put8_below B10 (w.heap.size + 1 + 1) (by omega) (.int .i64 x.leap) (.int .i64 (ms + 1)) (.int .u32 idv) (.int .i64 mo) (.int .i64 mj) (.int .i64 dl) (.int .i64 dp) (.int .i64 ld)
      clear c0 c1 c2 c3 c4 c5 c6 c7 fr
      obtain ⟨⟨c0, c1, c2, c3, c4, c5, c6, c7⟩, _⟩ := eight_in18 C1
      unfold put8 at *
      refine bodyPost_ret (v := .tuple #[.agg #[.int .i64 x.leap, .int .i64 (ms + 1), .int .u32 idv, .int .i64 mo, .int .i64 mj, .int .i64 dl, .int .i64 dp, .int .i64 ld], .bool true]) ?_ rfl ⟨rfl, BF⟩
      simp [results, Try.results15, go_sem, c0, c1, c2, c3, c4, c5, c6, c7]
    · have d2 : ((ids.length : Int) == (l.length : Int)) = false := beq_eq_false_iff_ne.2 (by omega)
      have d3 : ((ids.length : Int) != (l.length : Int)) = true := by simp [g2]; omega
      have hb : combB l ids kept old = false := by unfold combB; rw [decide_eq_false]; exact fun h => g2 h.2
      have hy : combY p l ids kept old lo hi at_ = Sy.zero := by unfold combY; rw [hb]; rfl
      rw [hb, hy]
      unfold Sy.val Sy.cells Sy.zero
      dsimp only
      generalize leadI l kept old = ld at *
      clear hb hy
      go_enter Try.func15, Try.ntmps15
      go_wp2_with (rw [hw0])
      (with_reducible refine cC.mono ?_)
      rintro e w1 ⟨rfl, B1⟩
      obtain ⟨x0, x1, x2, B0, z0⟩ := X.out
      have y2 := (B1.block _ (by omega)).trans x2
      have BW := B0.trans (B1.mono (by omega))
      obtain ⟨⟨c0, c1, c2, c3, c4, c5, c6, c7⟩, fr⟩ := eight_in18 y2
      have HY := Lib.hid (And.intro y2 BW)
      clear x0 x1 x2 B0 z0 B1 y2 BW cC X
      go_wp2_with fail
      obtain ⟨y2, BW⟩ := HY.out
      have C1 := put8_at (a0 := .int .i64 0) (a1 := .int .i64 0) (a2 := .int .u32 0) (a3 := .int .i64 0) (a4 := .int .i64 0) (a5 := .int .i64 0) (a6 := .int .i64 0) (a7 := .int .i64 0) y2
      have BF := put8_below BW (w.heap.size + 1 + 1) (by omega) (.int .i64 0) (.int .i64 0) (.int .u32 0) (.int .i64 0) (.int .i64 0) (.int .i64 0) (.int .i64 0) (.int .i64 0)
      clear c0 c1 c2 c3 c4 c5 c6 c7 fr
      obtain ⟨⟨c0, c1, c2, c3, c4, c5, c6, c7⟩, _⟩ := eight_in18 C1
      unfold put8 at *
      refine bodyPost_ret (v := .tuple #[.agg #[.int .i64 0, .int .i64 0, .int .u32 0, .int .i64 0, .int .i64 0, .int .i64 0, .int .i64 0, .int .i64 0], .bool false]) ?_ rfl ⟨rfl, BF⟩
      simp [results, Try.results15, go_sem, c0, c1, c2, c3, c4, c5, c6, c7]
end Go.Proofs.Ytekdablolacgfaa.W

