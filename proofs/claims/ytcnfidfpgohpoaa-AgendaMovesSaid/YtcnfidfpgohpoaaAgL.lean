/- Layer 8: an agenda that was filled, ticket by ticket; rows of numbers that came in. -/
import Derived.Test.YtcnfidfpgohpoaaAgK
import Derived.Test.YtcnfidfpgohpoaaRowS
namespace Go.Proofs.Ytcnfidfpgohpoaa.W
open Go.RowKit Go.Sort Go.ChangeShapes Go.WideShapes
set_option linter.unusedVariables false
set_option linter.unusedSimpArgs false
theorem has_lay (t : Int) (x : It) (l : List It) : hasL t (layL x l) = (decide (x.ticket = t) || hasL t l) := by
  unfold hasL
  induction l with
  | nil => simp [layL]
  | cons y l ih =>
    unfold layL
    split
    · simp
    · simp only [List.any_cons, ih]
      cases decide (x.ticket = t) <;> cases decide (y.ticket = t) <;> simp
theorem has_off (t s : Int) (l : List It) : hasL t (offL s l) = (!decide (t = s) && hasL t l) := by
  unfold hasL offL
  induction l with
  | nil => simp
  | cons y l ih =>
    rw [List.filter_cons]
    by_cases h : y.ticket = s
    · rw [if_neg (by simp [h]), ih, List.any_cons, h]
      by_cases e : t = s
      · subst e; simp
      · simp [e, show ¬ s = t from fun h => e h.symm]
    · rw [if_pos (by simp [h]), List.any_cons, ih, List.any_cons]
      by_cases e : y.ticket = t
      · subst e; simp [h]
      · simp [e]
theorem off_lay (x : It) (l : List It) (h : ∀ y ∈ l, y.ticket ≠ x.ticket) : offL x.ticket (layL x l) = l := by
  have hf : offL x.ticket l = l := by
    unfold offL
    rw [List.filter_eq_self]
    intro y hy
    simp
    exact h y hy
  induction l with
  | nil => simp [layL, offL]
  | cons y l ih =>
    have hy := h y (List.mem_cons_self ..)
    have hl := fun z hz => h z (List.mem_cons_of_mem _ hz)
    unfold layL
    split
    · unfold offL at hf ⊢
      rw [List.filter_cons, if_neg (by simp), hf]
    · have hf' : offL x.ticket l = l := by
        unfold offL
        rw [List.filter_eq_self]
        intro z hz
        simp
        exact hl z hz
      have := ih hl hf'
      unfold offL at this ⊢
      rw [List.filter_cons, if_pos (by simpa using hy), this]
theorem off_len {t : Int} {l : List It} (h1 : l.Pairwise fun x y => x.ticket ≠ y.ticket) (h : hasL t l = true) : (offL t l).length + 1 = l.length := by
  induction l with
  | nil => cases h
  | cons y l ih =>
    obtain ⟨n1, n2⟩ := List.pairwise_cons.1 h1
    by_cases e : y.ticket = t
    · have hf : offL t l = l := by
        unfold offL
        rw [List.filter_eq_self]
        intro z hz
        have := n1 z hz
        simp
        intro e'
        exact this (by rw [e, e'])
      unfold offL at hf ⊢
      rw [List.filter_cons, if_neg (by simp [e]), hf, List.length_cons]
    · have hh : hasL t l = true := by
        unfold hasL at h ⊢
        rw [List.any_cons] at h
        simpa [e] using h
      have := ih n2 hh
      unfold offL at this ⊢
      rw [List.filter_cons, if_pos (by simpa using e), List.length_cons, List.length_cons, this]
/-- i items were put, with the tickets 1 to i. -/
structure Filled (P : Int → Int → Prop) (i : Nat) (a : Ag) : Prop where
  ok : a.Ok
  n : a.n = i
  len : a.l.length = i
  all : ∀ x ∈ a.l, P x.ticket x.at_
  has : ∀ t : Int, 1 ≤ t → t ≤ i → hasL t a.l = true
theorem fill_new (P : Int → Int → Prop) : Filled P 0 agNew := ⟨agNew_ok, rfl, rfl, by simp [agNew], fun t h1 h2 => by omega⟩
theorem fill_next {P : Int → Int → Prop} {i : Nat} {a : Ag} (h : Filled P i a) (hi : i < 1000) (y kind : Int) (y0 : 0 ≤ y) (y1 : y ≤ 9223372036854775807) (k0 : 0 ≤ kind) (k1 : kind ≤ 255) (hy : P (i + 1) y) :
    putE a y kind [] = 0 ∧ putN a y kind [] = i + 1 ∧ Filled P (i + 1) (putS a y kind []) := by
  have e : putE a y kind [] = 0 := by
    unfold putE
    rw [if_neg (by simp; omega), if_neg (by have := h.len; omega)]
  have s : putS a y kind [] = ⟨layL ⟨y, kind, [], a.n + 1⟩ a.l, a.n + 1⟩ := by unfold putS; rw [if_pos e]
  refine ⟨e, by unfold putN; rw [if_pos e, h.n], put_ok h.ok _ _ _ y1, by rw [s]; show a.n + 1 = _; rw [h.n]; omega, by rw [s]; show (layL _ _).length = _; rw [layL_length, h.len], ?_, ?_⟩
  · rw [s]
    intro x hx
    rcases (mem_layL _ _ _).1 hx with rfl | hx
    · show P (a.n + 1) y
      rw [h.n]
      exact hy
    · exact h.all x hx
  · rw [s]
    intro t t1 t2
    show hasL t (layL _ _) = true
    rw [has_lay]
    by_cases e : a.n + 1 = t
    · simp [e]
    · rw [h.has t t1 (by have := h.n; omega)]
      simp
theorem Filled.room {P : Int → Int → Prop} {i : Nat} {a : Ag} (h : Filled P i a) : i ≤ 1000 := by have := h.ok.room; have := h.len; omega
theorem Filled.no {P : Int → Int → Prop} {i : Nat} {a : Ag} (h : Filled P i a) (t : Int) (ht : i < t) : hasL t a.l = false := by
  unfold hasL
  rw [List.any_eq_false]
  intro x hx
  have := (h.ok.given x hx).2.1
  have := h.n
  simp
  omega
/-- What is moved away and back stands where it stood. -/
theorem mov_back {a : Ag} (ok : a.Ok) {x : It} (hx : x ∈ a.l) (away : Int) (h0 : 0 ≤ away) (h1 : 0 ≤ x.at_) : movS (movS a x.ticket away) x.ticket x.at_ = a := by
  have hf : findL x.ticket a.l = some x := by
    obtain ⟨y, h1, h2, h3⟩ := find_has (t := x.ticket) (l := a.l) (by unfold hasL; rw [List.any_eq_true]; exact ⟨x, hx, by simp⟩)
    have := last_find ok.once h1
    rw [h1]
    congr 1
    by_cases e : y = x
    · exact e
    · exact absurd h3 (by
        have hp := ok.once
        rw [List.pairwise_iff_getElem] at hp
        obtain ⟨p, hp1, hp2⟩ := List.getElem_of_mem h2
        obtain ⟨q, hq1, hq2⟩ := List.getElem_of_mem hx
        rcases Nat.lt_trichotomy p q with hlt | heq | hgt
        · have := hp p q hp1 hq1 hlt
          rw [hp2, hq2] at this
          exact this
        · subst heq
          exact absurd (hp2.symm.trans hq2) e
        · have := hp q p hq1 hp1 hgt
          rw [hp2, hq2] at this
          exact fun e' => this e'.symm)
  have hd : ∀ y ∈ offL x.ticket a.l, y.ticket ≠ x.ticket := fun y hy => (off_mem hy).2
  have e1 : movS a x.ticket away = ⟨layL ⟨away, x.kind, x.data, x.ticket⟩ (offL x.ticket a.l), a.n⟩ := by
    unfold movS
    rw [if_neg (by omega), hf]
  have hf2 : findL x.ticket (layL ⟨away, x.kind, x.data, x.ticket⟩ (offL x.ticket a.l)) = some ⟨away, x.kind, x.data, x.ticket⟩ := by
    obtain ⟨y, h1, h2, h3⟩ := find_has (t := x.ticket) (l := layL ⟨away, x.kind, x.data, x.ticket⟩ (offL x.ticket a.l)) (by rw [has_lay]; simp)
    rw [h1]
    congr 1
    rcases (mem_layL _ _ _).1 h2 with h2 | h2
    · exact h2
    · exact absurd h3 (hd y h2)
  rw [e1]
  unfold movS
  rw [if_neg (by omega)]
  simp only []
  rw [hf2]
  simp only []
  rw [show offL x.ticket (layL ⟨away, x.kind, x.data, x.ticket⟩ (offL x.ticket a.l)) = offL x.ticket a.l from off_lay ⟨away, x.kind, x.data, x.ticket⟩ _ hd]
  have := lay_back x a.l ok.order ok.once hx
  rw [this]
theorem mov_zero {a : Ag} {t at_ : Int} (h : hasL t a.l = true) (h0 : 0 ≤ at_) : movE a t at_ = 0 := by
  unfold movE
  rw [h, if_pos rfl, if_neg (by omega)]
theorem mov_has {a : Ag} (t at_ s : Int) (h : hasL t a.l = true) (h0 : 0 ≤ at_) : hasL s (movS a t at_).l = hasL s a.l := by
  obtain ⟨x, hf, hx, ht⟩ := find_has h
  unfold movS
  rw [if_neg (by omega), hf]
  simp only []
  rw [has_lay, has_off, ht]
  by_cases e : s = t
  · subst e; simp [h]
  · simp [e, show ¬ t = s from fun h => e h.symm]
theorem mov_length {a : Ag} (ok : a.Ok) (t at_ : Int) : (movS a t at_).l.length = a.l.length := by
  unfold movS
  split
  · rfl
  · cases hf : findL t a.l with
    | none => rfl
    | some x =>
      have hx := List.mem_of_find?_eq_some hf
      have ht : x.ticket = t := by have := List.find?_some hf; simpa using this
      simp only []
      rw [layL_length, off_len ok.once (by unfold hasL; rw [List.any_eq_true]; exact ⟨x, hx, by simp [ht]⟩)]
theorem mov_mem {a : Ag} (t at_ : Int) (h : hasL t a.l = true) (h0 : 0 ≤ at_) {y : It} (hy : y ∈ (movS a t at_).l) : (y.ticket = t ∧ y.at_ = at_) ∨ (y.ticket ≠ t ∧ y ∈ a.l) := by
  obtain ⟨x, hf, hx, ht⟩ := find_has h
  unfold movS at hy
  rw [if_neg (by omega), hf] at hy
  simp only [] at hy
  rcases (mem_layL _ _ _).1 hy with rfl | hy
  · exact .inl ⟨ht, rfl⟩
  · exact .inr ⟨(off_mem hy).2, (off_mem hy).1⟩
theorem mov_n (a : Ag) (t at_ : Int) : (movS a t at_).n = a.n := by
  unfold movS
  split
  · rfl
  · split <;> rfl
/-- Doubled, and cancelled. -/
theorem dbl_back {a : Ag} (ok : a.Ok) {t at_ : Int} (h : hasL t a.l = true) (h0 : 0 ≤ at_) (hr : a.l.length < 1000) :
    dblE a t at_ = 0 ∧ dblN a t at_ = a.n + 1 ∧ canE (dblS a t at_) (a.n + 1) = 0 ∧ canS (dblS a t at_) (a.n + 1) = ⟨a.l, a.n + 1⟩ ∧ canE ⟨a.l, a.n + 1⟩ (a.n + 1) = 3 := by
  obtain ⟨x, hf, hx, ht⟩ := find_has h
  have hg := ok.given x hx
  have e : putE a at_ x.kind x.data = 0 := by
    unfold putE
    rw [if_neg (by omega), if_neg (by omega)]
  have s : dblS a t at_ = ⟨layL ⟨at_, x.kind, x.data, a.n + 1⟩ a.l, a.n + 1⟩ := by
    unfold dblS putS
    rw [hf]
    simp only []
    rw [if_pos e]
  have hd : ∀ y ∈ a.l, y.ticket ≠ a.n + 1 := fun y hy => by have := (ok.given y hy).2.1; omega
  have hno : hasL (a.n + 1) a.l = false := by
    unfold hasL
    rw [List.any_eq_false]
    intro y hy
    simpa using hd y hy
  refine ⟨by unfold dblE; rw [hf]; exact e, by unfold dblN putN; rw [hf]; simp only []; rw [if_pos e], ?_, ?_, ?_⟩
  · unfold canE
    rw [s]
    simp only []
    rw [has_lay]
    simp
  · unfold canS
    rw [s]
    simp only []
    rw [show offL (a.n + 1) (layL ⟨at_, x.kind, x.data, a.n + 1⟩ a.l) = a.l from off_lay ⟨at_, x.kind, x.data, a.n + 1⟩ a.l hd]
  · unfold canE
    simp only []
    rw [hno]
    rfl
theorem more_ok {a : Ag} (ok : a.Ok) : (Ag.mk a.l (a.n + 1)).Ok := ⟨ok.order, ok.once, fun x hx => by have := ok.given x hx; simp only []; omega, by have := ok.n; simp only []; omega, ok.room⟩
def Due (z : List Int) (t x : Int) : Prop := z[(t - 1).toNat]? = some x
end Go.Proofs.Ytcnfidfpgohpoaa.W
