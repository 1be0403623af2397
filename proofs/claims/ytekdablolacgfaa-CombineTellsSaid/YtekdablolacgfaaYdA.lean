/- A range over a function whose function ranges over another one: what the two owe each other. No program in it. -/
import Derived.RangeFuncNested
import Derived.RangeFuncBound
import Derived.RangeFuncCalls
import Derived.RangeFuncLeaves
import Derived.WalkKit
namespace Go.Proofs.Ytekdablolacgfaa.W
open Go.RowKit
set_option linter.unusedVariables false
theorem own_weaken {β : Type} {B B' : Nat} {I : β → World → Prop} (h : OwnFrom B I) (hB : B ≤ B') : OwnFrom B' I := fun s X Y row hs hg hr => h s X Y row hs hg fun r e => ⟨Nat.le_trans hB (hr r e).1, (hr r e).2⟩
/-- Whatever lies at or beyond B stays as it is. -/
structure Fixed (B : Nat) (X Y : World) : Prop where
  size : X.heap.size ≤ Y.heap.size
  same : ∀ k, B ≤ k → k < X.heap.size → Y.heap[k]? = X.heap[k]?
theorem Fixed.refl (B : Nat) (X : World) : Fixed B X X := ⟨Nat.le_refl _, fun _ _ _ => rfl⟩
theorem Fixed.trans {B : Nat} {X Y Z : World} (h : Fixed B X Y) (g : Fixed B Y Z) : Fixed B X Z := ⟨Nat.le_trans h.size g.size, fun k hk hl => (g.same k hk (Nat.lt_of_lt_of_le hl h.size)).trans (h.same k hk hl)⟩
theorem Fixed.weaken {B B' : Nat} {X Y : World} (h : Fixed B X Y) (hB : B ≤ B') : Fixed B' X Y := ⟨h.size, fun k hk => h.same k (Nat.le_trans hB hk)⟩
theorem Fixed.alloc (B : Nat) (X : World) (o : Obj) : Fixed B X (X.alloc o) := ⟨by rw [World.size_alloc]; omega, fun k _ hl => Below.heap_alloc X o k hl⟩
theorem Fixed.setCell {B : Nat} (X : World) {a : Addr} (ha : a.block < B) (v : Value) : Fixed B X (X.setCell a v) :=
  ⟨by simp [World.setCell], fun k hk _ => Below.heap_setCell X a v k (by omega)⟩
theorem Fixed.drew (B : Nat) (X : World) : Fixed B X X.drew := ⟨Nat.le_refl _, fun _ _ _ => rfl⟩
theorem Fixed.of_below {B n : Nat} {X Y : World} (h : Below n X Y) (hn : X.heap.size ≤ n) : Fixed B X Y := ⟨h.size, fun k _ hl => h.block k (by omega)⟩
theorem Fixed.putObj {B : Nat} (X : World) {l : Nat} (hl : l < B) (o : Obj) : Fixed B X (X.putObj l o) := ⟨by simp, fun k hk _ => World.putObj_heap_other (by omega)⟩
theorem Fixed.keep {B : Nat} {X Y : World} (h : Fixed B X Y) {k : Nat} {o : Obj} (hk : B ≤ k) (ho : X.heap[k]? = some o) : Y.heap[k]? = some o := (h.same k hk (Array.getElem?_eq_some_iff.1 ho).1).trans ho
/-- How a round may end. -/
def endsF {α : Type} (B : Nat) (Kp : World → World → Prop) (I : List α → World → Prop) (Ix : Code → List α → World → Prop) (xs : List α) (W : World) : Exit → Act → World → Prop
  | .normal, _, W' => Fixed B W W' ∧ Kp W W' ∧ I xs W'
  | .ret, _, W' => Fixed B W W' ∧ Ix .ret xs W'
  | .exit id, _, W' => Fixed B W W' ∧ Ix (.exit id) xs W'
  | .goto t, _, W' => Fixed B W W' ∧ Ix (.goto t) xs W'
  | .panic _, _, _ => False
  | .outgrown, _, _ => False
/-- What a function does that is ranged over. Its caller's word (J, Jx) need not mind what is no cells and new to it; a round leaves alone what the function itself has laid. -/
def Yields {α : Type} (P : Program) (g : Nat) (lb : Array Value) (encs : α → Array Value) (Kp : World → World → Prop) (S Sp : List α → Prop) (N : Nat) (w : World) : Prop :=
  ∀ (l : Nat) (J Jx : List α → World → Prop) (W : World), Below w.heap.size w W → OwnFrom W.heap.size J → OwnFrom W.heap.size Jx →
    (∀ pre x W1, J pre W1 → pre.length < N → YieldAt Fence.wide 0 P l (encs x) W1 fun e W' => Fixed W.heap.size W1 W' ∧
      ((e = .returned (.bool true) ∧ J (pre ++ [x]) W' ∧ Kp W1 W') ∨ (e = .returned (.bool false) ∧ Jx (pre ++ [x]) W'))) →
    J [] W →
    CallsIn Fence.wide 0 P g (#[.func (.yield l) #[] #[]] ++ lb) W fun e W' => (∃ v, e = .returned v) ∧ ((∃ xs, S xs ∧ J xs W') ∨ (∃ pre, Sp pre ∧ Jx pre W'))
theorem Yields.below {α : Type} {P : Program} {g : Nat} {lb : Array Value} {encs : α → Array Value} {Kp : World → World → Prop} {S Sp : List α → Prop} {N : Nat} {w w' : World} (h : Yields P g lb encs Kp S Sp N w) (hB : Below w.heap.size w w') : Yields P g lb encs Kp S Sp N w' :=
  fun l J Jx W hW => h l J Jx W (hB.trans (hW.mono hB.size))
/-- The two blocks that a loop lays for itself. -/
structure Book (b : Nat) (r : Loop) (W : World) : Prop where
  mark : W.heap[b]? = some (.deferred (some []))
  rec_ : W.heap[b + 1]? = some (.loop r)
theorem Book.start (w : World) (r : Loop) : Book w.heap.size r ((w.alloc (.deferred (some []))).alloc (.loop r)) := by
  refine ⟨(Below.heap_alloc _ _ _ (by rw [World.size_alloc]; omega)).trans (World.alloc_heap_new w _), ?_⟩
  have := World.alloc_heap_new (w.alloc (.deferred (some []))) (.loop r)
  rwa [World.size_alloc] at this
theorem Book.grown {b : Nat} {r : Loop} {X Y : World} {row : Option Nat} (h : Book b r X) (hg : X.grownBy Y row) (hr : ∀ k, row = some k → b + 2 ≤ k) : Book b r Y :=
  ⟨(hg.block _ (Array.getElem?_eq_some_iff.1 h.mark).1 fun e => by have := hr _ e.symm; omega).trans h.mark, (hg.block _ (Array.getElem?_eq_some_iff.1 h.rec_).1 fun e => by have := hr _ e.symm; omega).trans h.rec_⟩
theorem Book.keeps {b : Nat} {r : Loop} {X Y : World} (h : Book b r X) (hk : Fixed b X Y) : Book b r Y := ⟨hk.keep (Nat.le_refl _) h.mark, hk.keep (by omega) h.rec_⟩
theorem Book.turn {b : Nat} {r : Loop} {X : World} (h : Book b r X) (r' : Loop) : Book b r' (X.putObj (b + 1) (.loop r')) :=
  ⟨(World.putObj_heap_other (by omega)).trans h.mark, World.putObj_heap_same (Array.getElem?_eq_some_iff.1 h.rec_).1⟩
theorem keeps_turn (X : World) (b : Nat) (o : Obj) : Fixed (b + 2) X (X.putObj (b + 1) o) := Fixed.putObj X (by omega) o
/-- The statement. -/
theorem range_yields {α : Type} {P : Program} {g : Operand} {ps : Array Tmp} {assign body : Code} {Q : Exit → Act → World → Prop} {a : Act} {w : World}
    {gf : Nat} {lb : Array Value} (hg : a.eval g = .func (.func gf) #[] lb) (eg : ∀ args w, (callFunc gf args).run P w = .ok (.enter gf args) w)
    {encs : α → Array Value} {Kp : World → World → Prop} {S Sp : List α → Prop} {N : Nat} {w0 : World} (hseq : Yields P gf lb encs Kp S Sp N w0)
    (hKt : ∀ {A B C : World}, Kp A B → Kp B C → Kp A C) (hKb : ∀ (W : World) (l : Nat) (o o' : Obj), w.heap.size ≤ l → W.heap[l]? = some o → o.isCells = false → Kp W (W.putObj l o')) (hb0 : Below w0.heap.size w0 w) (hps : ∀ x, (encs x).size = ps.size)
    (I : List α → World → Prop) (Ix : Code → List α → World → Prop) (hI : OwnFrom w.heap.size I) (hIx : ∀ c, OwnFrom w.heap.size (Ix c)) (h0 : I [] w) (Ax : α → Act → World → Prop) (hAx : ∀ x a', OwnFrom w.heap.size (fun (_ : Unit) W => Ax x a' W))
    (hassign : ∀ (l : Nat) (pre : List α) (x : α) (W : World) (K : Act → World → Prop), I pre W → (∀ a' W', Fixed w.heap.size W W' → Kp W W' → I pre W' → Ax x a' W' → K a' W') →
      assign.wpIn (Fence.wide.inRound l) 0 P (Exit.then K (fun _ _ _ => False)) { tmps := (ps.zip (encs x)).foldl (fun t (p, v) => t.setIfInBounds p v) a.tmps, defers := [] } W)
    (hbody : ∀ (l : Nat) (pre : List α) (x : α) (a' : Act) (W : World), w.heap.size ≤ l → I pre W → Ax x a' W → pre.length < N → body.wpIn (Fence.wide.inRound l) 0 P (endsF w.heap.size Kp I Ix (pre ++ [x]) W) a' W)
    (hdone : ∀ (D : Nat) (xs : List α) (W : World), w.heap.size ≤ D → S xs → I xs W → W.heap[D]? = some (.deferred (some [])) → Q .normal { a with defers := { target := .collected D, args := #[] } :: a.defers } W)
    (hstop : ∀ (D : Nat) (c : Code) (pre : List α) (W : World), w.heap.size ≤ D → Sp pre → Ix c pre W → W.heap[D]? = some (.deferred (some [])) → c.wpIn Fence.wide 0 P Q { a with defers := { target := .collected D, args := #[] } :: a.defers } W) :
    (Code.rangeFunc g ps assign body).wpIn Fence.wide 0 P Q a w := by
  refine wpIn_rangeFunc fun fn hfn => ?_
  obtain ⟨rc, hrc⟩ : ∃ rc : LoopState → Option Code → Loop, rc = fun st pe => { state := st, pending := pe, fn, tmps := a.tmps, params := ps, assign, body, defers := w.heap.size } := ⟨_, rfl⟩
  have hrt : ∀ st pe, (rc st pe).tmps = a.tmps ∧ (rc st pe).params = ps ∧ (rc st pe).assign = assign ∧ (rc st pe).body = body ∧ (rc st pe).fn = fn ∧ (rc st pe).state = st ∧ (rc st pe).pending = pe := fun st pe => by rw [hrc]; exact ⟨rfl, rfl, rfl, rfl, rfl, rfl, rfl⟩
  have hup : ∀ st pe st' pe', { rc st pe with state := st', pending := pe' } = rc st' pe' := fun st pe st' pe' => by rw [hrc]
  have hbusy : { rc .ready none with state := .busy } = rc .busy none := by rw [hrc]
  have bk := Book.start w (rc .ready none)
  have he : (Instr.enterLoop fn a.tmps ps assign body none).run P w = .ok (w.heap.size + 1, [{ target := .collected w.heap.size, args := #[] }]) ((w.alloc (.deferred (some []))).alloc (.loop (rc .ready none))) := by
    rw [hrc]
    exact run_enterLoop_outer _ _ _ _ _
  have hB1 : Below w.heap.size w ((w.alloc (.deferred (some []))).alloc (.loop (rc .ready none))) := ((Below.refl _ w).alloc (Nat.le_refl _) _).alloc (by rw [World.size_alloc]; omega) _
  have hs1 : ((w.alloc (.deferred (some []))).alloc (.loop (rc .ready none))).heap.size = w.heap.size + 2 := by rw [World.size_alloc, World.size_alloc]
  have hI1 : I [] ((w.alloc (.deferred (some []))).alloc (.loop (rc .ready none))) := hI.alloc _ (hI.alloc _ h0)
  generalize (w.alloc (.deferred (some []))).alloc (.loop (rc .ready none)) = W1 at *
  refine ⟨w.heap.size + 1, _, W1, { target := .fn (.func gf) lb, args := #[.func (.yield (w.heap.size + 1)) #[] #[]] }, W1, gf, #[.func (.yield (w.heap.size + 1)) #[] #[]] ++ lb, W1, he, ?_, fun f' hf' => trivial, ?_, fun h => (by cases h), ?_⟩
  · simp only [resolve, hg]
    simp [go_sem]
  · simp [invoke, go_sem, eg]
  have turn : ∀ {W : World} {st st' : LoopState} {pe pe' : Option Code}, Book w.heap.size (rc st pe) W → Book w.heap.size (rc st' pe') (W.putObj (w.heap.size + 1) (.loop (rc st' pe'))) := fun h => h.turn _
  refine (hseq (w.heap.size + 1) (fun pre W => I pre W ∧ Book w.heap.size (rc .ready none) W) (fun pre W => ∃ c, Ix c pre W ∧ Book w.heap.size (rc .done (some c)) W) W1 (hb0.trans (hB1.mono hb0.size)) ?_ ?_ ?_ ⟨hI1, bk⟩).mono ?_
  · intro s X Y row h hgr hr
    rw [hs1] at hr
    exact ⟨own_weaken hI (by omega) s X Y row h.1 hgr hr, h.2.grown hgr fun k e => (hr k e).1⟩
  · rintro s X Y row ⟨c, h1, h2⟩ hgr hr
    rw [hs1] at hr
    exact ⟨c, own_weaken (hIx c) (by omega) s X Y row h1 hgr hr, h2.grown hgr fun k e => (hr k e).1⟩
  · rintro pre x W ⟨hi, hb⟩ hlen
    rw [hs1]
    have hy := run_yield (P := P) (args := encs x) hb.rec_ (by rw [(hrt _ _).2.1]; exact hps x)
    obtain ⟨t1, t2, t3, t4, t5, _⟩ := hrt .ready none
    rw [t1, t2, t3, t4, t5] at hy
    refine ⟨fn, _, assign, body, hy, roundIn_of_wpIn hfn (hassign _ pre x W _ hi fun a' Wa hka hkp hia hax => ?_)⟩
    have hba := hb.keeps hka
    have hbr := run_beginRound (P := P) hba.rec_ (hrt _ _).2.2.2.2.2.1
    rw [hbusy] at hbr
    refine ⟨_, hbr, ?_⟩
    have hb2 : Book w.heap.size (rc .busy none) (Wa.putObj (w.heap.size + 1) (.loop (rc .busy none))) := turn hba
    have hk2 := hKb Wa _ _ (.loop (rc .busy none)) (Nat.le_succ _) hba.rec_ rfl
    have hi2 := hI.putObj (.loop (rc .busy none)) hia (Nat.le_succ _) hba.rec_ rfl
    have hx2 := (hAx x a').putObj (s := ()) (.loop (rc .busy none)) hax (Nat.le_succ _) hba.rec_ rfl
    have hf2 := (hka.weaken (show w.heap.size ≤ w.heap.size + 2 by omega)).trans (keeps_turn Wa w.heap.size (.loop (rc .busy none)))
    have hkp2 := hKt hkp hk2
    generalize Wa.putObj (w.heap.size + 1) (.loop (rc .busy none)) = W2 at *
    refine wpIn_mono (hbody _ pre x a' W2 (Nat.le_succ _) hi2 hx2 hlen) ?_
    have fin : ∀ (jump : Option Code) (W3 : World), Fixed w.heap.size W2 W3 → ∃ st, (jump = none → st = .ready) ∧ (jump ≠ none → st = .done) ∧
        (Instr.endRound (w.heap.size + 1) jump).run P W3 = .ok (.bool jump.isNone) (W3.putObj (w.heap.size + 1) (.loop (rc st jump))) ∧ Book w.heap.size (rc .busy none) W3 ∧ Book w.heap.size (rc st jump) (W3.putObj (w.heap.size + 1) (.loop (rc st jump))) ∧ Fixed (w.heap.size + 2) W (W3.putObj (w.heap.size + 1) (.loop (rc st jump))) := fun jump W3 h3 => by
      have hb3 := hb2.keeps h3
      have hr3 := run_endRound (P := P) jump hb3.rec_
      rw [hup] at hr3
      refine ⟨_, fun e => ?_, fun e => ?_, hr3, hb3, turn hb3, (hf2.trans (h3.weaken (by omega))).trans (keeps_turn W3 _ _)⟩
      · subst e
        rfl
      · cases jump with
        | none => exact absurd rfl e
        | some c => rfl
    have out : ∀ (c : Code) (W3 : World), Fixed w.heap.size W2 W3 → Ix c (pre ++ [x]) W3 → ∃ v w', (Instr.endRound (w.heap.size + 1) (some c)).run P W3 = .ok v w' ∧ Fixed (w.heap.size + 2) W w' ∧
        ((Ending.returned v = .returned (.bool true) ∧ (I (pre ++ [x]) w' ∧ Book w.heap.size (rc .ready none) w') ∧ Kp W w') ∨ (Ending.returned v = .returned (.bool false) ∧ ∃ c, Ix c (pre ++ [x]) w' ∧ Book w.heap.size (rc .done (some c)) w')) := fun c W3 h3 hi3 => by
      obtain ⟨st, _, h2, hr, hb3, hb4, hf⟩ := fin (some c) W3 h3
      obtain rfl := h2 (by simp)
      exact ⟨_, _, hr, hf, .inr ⟨rfl, c, (hIx c).putObj _ hi3 (Nat.le_succ _) hb3.rec_ rfl, hb4⟩⟩
    rintro e a3 W3 hp
    cases e with
    | normal =>
      obtain ⟨h3, hkp3, hi3⟩ := hp
      obtain ⟨st, h1, _, hr, hb3, hb4, hf⟩ := fin none W3 h3
      obtain rfl := h1 rfl
      exact ⟨_, _, hr, hf, .inl ⟨rfl, ⟨hI.putObj _ hi3 (Nat.le_succ _) hb3.rec_ rfl, hb4⟩, hKt hkp2 (hKt hkp3 (hKb _ _ _ _ (Nat.le_succ _) hb3.rec_ rfl))⟩⟩
    | ret => exact out .ret W3 hp.1 hp.2
    | exit id => exact out (.exit id) W3 hp.1 hp.2
    | goto t => exact out (.goto t) W3 hp.1 hp.2
    | panic ch => exact hp.elim
    | outgrown => exact hp.elim
  · rintro e W2 ⟨⟨v, rfl⟩, h | h⟩
    · obtain ⟨xs, hS, hi, hb⟩ := h
      have := run_endLoop (P := P) hb.rec_ (by rw [(hrt _ _).2.2.2.2.2.1]; simp)
      rw [(hrt _ _).2.2.2.2.2.2] at this
      exact ⟨none, _, this, hdone _ xs _ (Nat.le_refl _) hS (hI.putObj _ hi (Nat.le_succ _) hb.rec_ rfl) (hb.turn _).mark⟩
    · obtain ⟨pre, hSp, c, hi, hb⟩ := h
      have := run_endLoop (P := P) hb.rec_ (by rw [(hrt _ _).2.2.2.2.2.1]; simp)
      rw [(hrt _ _).2.2.2.2.2.2] at this
      exact ⟨some c, _, this, hstop _ c pre _ (Nat.le_refl _) hSp ((hIx c).putObj _ hi (Nat.le_succ _) hb.rec_ rfl) (hb.turn _).mark⟩
end Go.Proofs.Ytekdablolacgfaa.W
