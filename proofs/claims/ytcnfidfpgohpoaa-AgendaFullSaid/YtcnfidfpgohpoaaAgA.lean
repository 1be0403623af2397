/- Layer 8 as lists: items in order. No program in it. -/
import Derived.Test.YtcnfidfpgohpoaaHdA
import Derived.Test.YtcnfidfpgohpoaaSlA
namespace Go.Proofs.Ytcnfidfpgohpoaa.W
open Go.RowKit
set_option linter.unusedVariables false
structure It where
  at_ : Int
  kind : Int
  data : List UInt8
  ticket : Int
def itE (x : It) : List Value := [.int .i64 x.at_, .int .i64 x.kind, .string (bs x.data), .int .i64 x.ticket]
theorem itE_length (x : It) : (itE x).length = 4 := rfl
def itZero : It := ⟨0, 0, [], 0⟩
structure It.Typed (x : It) : Prop where
  at_ : -9223372036854775808 ≤ x.at_ ∧ x.at_ ≤ 9223372036854775807
  kind : -9223372036854775808 ≤ x.kind ∧ x.kind ≤ 9223372036854775807
  data : x.data.length ≤ 1000000
  ticket : -9223372036854775808 ≤ x.ticket ∧ x.ticket ≤ 9223372036854775807
def itEq (a b : It) : Bool := decide (a.at_ = b.at_) && decide (a.kind = b.kind) && (a.data == b.data) && decide (a.ticket = b.ticket)
theorem itEq_iff (a b : It) : itEq a b = true ↔ a = b := by
  cases a; cases b
  simp [itEq, and_assoc]
def ahead (a b : It) : Bool := decide (a.at_ < b.at_) || (decide (a.at_ = b.at_) && decide (a.ticket < b.ticket))
theorem ahead_iff (a b : It) : ahead a b = true ↔ a.at_ < b.at_ ∨ (a.at_ = b.at_ ∧ a.ticket < b.ticket) := by simp [ahead]
/-- An item laid at its place. -/
def layL (x : It) : List It → List It
  | [] => [x]
  | y :: l => if ahead x y then x :: y :: l else y :: layL x l
/-- All but a ticket's. -/
def offL (t : Int) (l : List It) : List It := l.filter fun y => !decide (y.ticket = t)
def hasL (t : Int) (l : List It) : Bool := l.any fun y => decide (y.ticket = t)
/-- A ticket's item. -/
def findL (t : Int) (l : List It) : Option It := l.find? fun y => decide (y.ticket = t)
theorem layL_length (x : It) (l : List It) : (layL x l).length = l.length + 1 := by
  induction l with
  | nil => rfl
  | cons y l ih =>
    unfold layL
    split
    · simp
    · simp [ih]
theorem mem_layL (x z : It) (l : List It) : z ∈ layL x l ↔ z = x ∨ z ∈ l := by
  induction l with
  | nil => simp [layL]
  | cons y l ih =>
    unfold layL
    split
    · simp
    · simp only [List.mem_cons, ih]
      constructor
      · rintro (h | h | h)
        · exact .inr (.inl h)
        · exact .inl h
        · exact .inr (.inr h)
      · rintro (h | h | h)
        · exact .inr (.inl h)
        · exact .inl h
        · exact .inr (.inr h)
structure Ag where
  l : List It
  n : Int
/-- Items in order, each ticket once, given ones alone. -/
structure Ag.Ok (a : Ag) : Prop where
  order : a.l.Pairwise fun x y => ahead x y = true
  once : a.l.Pairwise fun x y => x.ticket ≠ y.ticket
  given : ∀ x ∈ a.l, 1 ≤ x.ticket ∧ x.ticket ≤ a.n ∧ 0 ≤ x.at_ ∧ x.at_ ≤ 9223372036854775807 ∧ 0 ≤ x.kind ∧ x.kind ≤ 255 ∧ x.data.length ≤ 2000
  n : 0 ≤ a.n
  room : a.l.length ≤ 1000
theorem ahead_trans {x y z : It} (h : ahead x y = true) (k : ahead y z = true) : ahead x z = true := by
  rw [ahead_iff] at *
  omega
theorem ahead_total {x y : It} (h : ¬ ahead x y = true) (hne : x.ticket ≠ y.ticket) : ahead y x = true := by
  rw [ahead_iff] at *
  omega
theorem lay_order (x : It) (l : List It) (h : l.Pairwise fun x y => ahead x y = true) (hx : ∀ y ∈ l, x.ticket ≠ y.ticket) : (layL x l).Pairwise fun x y => ahead x y = true := by
  induction l with
  | nil => simp [layL]
  | cons y l ih =>
    obtain ⟨h1, h2⟩ := List.pairwise_cons.1 h
    unfold layL
    split
    · rename_i ha
      exact List.pairwise_cons.2 ⟨fun z hz => by
        rcases List.mem_cons.1 hz with rfl | hz
        · exact ha
        · exact ahead_trans ha (h1 z hz), h⟩
    · rename_i ha
      refine List.pairwise_cons.2 ⟨fun z hz => ?_, ih h2 (fun z hz => hx z (List.mem_cons_of_mem _ hz))⟩
      rcases (mem_layL x z l).1 hz with rfl | hz
      · exact ahead_total ha (hx y (List.mem_cons_self ..))
      · exact h1 z hz
theorem lay_once (x : It) (l : List It) (h : l.Pairwise fun x y => x.ticket ≠ y.ticket) (hx : ∀ y ∈ l, x.ticket ≠ y.ticket) : (layL x l).Pairwise fun x y => x.ticket ≠ y.ticket := by
  induction l with
  | nil => simp [layL]
  | cons y l ih =>
    obtain ⟨h1, h2⟩ := List.pairwise_cons.1 h
    unfold layL
    split
    · exact List.pairwise_cons.2 ⟨hx, h⟩
    · refine List.pairwise_cons.2 ⟨fun z hz => ?_, ih h2 (fun z hz => hx z (List.mem_cons_of_mem _ hz))⟩
      rcases (mem_layL x z l).1 hz with rfl | hz
      · exact fun e => hx y (List.mem_cons_self ..) e.symm
      · exact h1 z hz
/-- An item that is taken off and laid again stands where it stood. -/
theorem lay_back (x : It) (l : List It) (h : l.Pairwise fun x y => ahead x y = true) (h1 : l.Pairwise fun x y => x.ticket ≠ y.ticket) (hx : x ∈ l) : layL x (offL x.ticket l) = l := by
  induction l with
  | nil => cases hx
  | cons y l ih =>
    obtain ⟨a1, a2⟩ := List.pairwise_cons.1 h
    obtain ⟨b1, b2⟩ := List.pairwise_cons.1 h1
    unfold offL
    by_cases e : y.ticket = x.ticket
    · have hxy : x = y := by
        rcases List.mem_cons.1 hx with hx | hx
        · exact hx
        · exact absurd e (b1 x hx)
      subst hxy
      have hf : l.filter (fun z => !decide (z.ticket = x.ticket)) = l := by
        rw [List.filter_eq_self]
        intro z hz
        have := b1 z hz
        simp
        exact fun e => this e.symm
      rw [List.filter_cons, if_neg (by simp), hf]
      cases l with
      | nil => rfl
      | cons z l => rw [layL, if_pos (a1 z (List.mem_cons_self ..))]
    · have hx' : x ∈ l := by
        rcases List.mem_cons.1 hx with hx | hx
        · exact absurd (by rw [hx]) e
        · exact hx
      have hn : ¬ ahead x y = true := by
        intro hxy
        have := a1 x hx'
        rw [ahead_iff] at *
        omega
      rw [List.filter_cons, if_pos (by simpa using e), layL, if_neg hn]
      exact congrArg (y :: ·) (ih a2 b2 hx')
theorem off_order (t : Int) {l : List It} (h : l.Pairwise fun x y => ahead x y = true) : (offL t l).Pairwise fun x y => ahead x y = true := h.filter _
theorem off_once (t : Int) {l : List It} (h : l.Pairwise fun x y => x.ticket ≠ y.ticket) : (offL t l).Pairwise fun x y => x.ticket ≠ y.ticket := h.filter _
theorem off_mem {t : Int} {l : List It} {x : It} (h : x ∈ offL t l) : x ∈ l ∧ x.ticket ≠ t := by
  obtain ⟨h1, h2⟩ := List.mem_filter.1 h
  exact ⟨h1, by simpa using h2⟩
theorem off_length (t : Int) (l : List It) : (offL t l).length ≤ l.length := List.length_filter_le _ _
theorem off_none {t : Int} {l : List It} (h : hasL t l = false) : offL t l = l := by
  unfold offL hasL at *
  rw [List.filter_eq_self]
  intro x hx
  rw [List.any_eq_false] at h
  simpa using h x hx
theorem find_has {t : Int} {l : List It} (h : hasL t l = true) : ∃ x, findL t l = some x ∧ x ∈ l ∧ x.ticket = t := by
  unfold hasL at h
  obtain ⟨x, hx, ht⟩ := List.any_eq_true.1 h
  cases hf : findL t l with
  | none =>
    unfold findL at hf
    have := List.find?_eq_none.1 hf x hx
    exact absurd ht this
  | some y =>
    unfold findL at hf
    exact ⟨y, rfl, List.mem_of_find?_eq_some hf, by have := List.find?_some hf; simpa using this⟩
def putE (a : Ag) (at_ kind : Int) (data : List UInt8) : Int := if at_ < 0 ∨ kind < 0 ∨ 255 < kind ∨ 2000 < data.length then 1 else if 1000 ≤ a.l.length then 2 else 0
def putS (a : Ag) (at_ kind : Int) (data : List UInt8) : Ag := if putE a at_ kind data = 0 then ⟨layL ⟨at_, kind, data, a.n + 1⟩ a.l, a.n + 1⟩ else a
def putN (a : Ag) (at_ kind : Int) (data : List UInt8) : Int := if putE a at_ kind data = 0 then a.n + 1 else 0
def canE (a : Ag) (t : Int) : Int := if hasL t a.l then 0 else 3
def canS (a : Ag) (t : Int) : Ag := ⟨offL t a.l, a.n⟩
def movE (a : Ag) (t at_ : Int) : Int := if hasL t a.l then (if at_ < 0 then 1 else 0) else 3
def movS (a : Ag) (t at_ : Int) : Ag := if at_ < 0 then a else match findL t a.l with
  | some x => ⟨layL ⟨at_, x.kind, x.data, x.ticket⟩ (offL t a.l), a.n⟩
  | none => a
def dblE (a : Ag) (t at_ : Int) : Int := match findL t a.l with | some x => putE a at_ x.kind x.data | none => 3
def dblS (a : Ag) (t at_ : Int) : Ag := match findL t a.l with | some x => putS a at_ x.kind x.data | none => a
def dblN (a : Ag) (t at_ : Int) : Int := match findL t a.l with | some x => putN a at_ x.kind x.data | none => 0
def nextV (a : Ag) : It := a.l.headD itZero
def nextB (a : Ag) : Bool := !a.l.isEmpty
def dueB (a : Ag) (now : Int) : Bool := match a.l with | [] => false | x :: _ => decide (x.at_ ≤ now)
def takV (a : Ag) (now : Int) : It := if dueB a now then nextV a else itZero
def takS (a : Ag) (now : Int) : Ag := if dueB a now then ⟨a.l.tail, a.n⟩ else a
def agNew : Ag := ⟨[], 0⟩
theorem agNew_ok : agNew.Ok := ⟨List.Pairwise.nil, List.Pairwise.nil, by simp [agNew], Int.le_refl _, Nat.zero_le _⟩
theorem put_ok {a : Ag} (h : a.Ok) (at_ kind : Int) (data : List UInt8) (hat : at_ ≤ 9223372036854775807) : (putS a at_ kind data).Ok := by
  unfold putS
  split
  · rename_i h0
    unfold putE at h0
    split at h0
    · cases h0
    · split at h0
      · cases h0
      · rename_i h1 h2
        have hx : ∀ y ∈ a.l, a.n + 1 ≠ y.ticket := fun y hy => by have := (h.given y hy).2.1; omega
        have hn := h.n
        refine ⟨lay_order _ _ h.order hx, lay_once _ _ h.once hx, fun x hm => ?_, by show 0 ≤ a.n + 1; omega, by rw [layL_length]; omega⟩
        rcases (mem_layL _ _ _).1 hm with rfl | hm
        · refine ⟨by show 1 ≤ a.n + 1; omega, Int.le_refl _, ?_⟩
          simp only []
          omega
        · have := h.given x hm
          refine ⟨this.1, by show x.ticket ≤ a.n + 1; omega, this.2.2⟩
  · exact h
theorem can_ok {a : Ag} (h : a.Ok) (t : Int) : (canS a t).Ok :=
  ⟨off_order t h.order, off_once t h.once, fun x hx => h.given x (off_mem hx).1, h.n, Nat.le_trans (off_length t a.l) h.room⟩
theorem mov_ok {a : Ag} (h : a.Ok) (t at_ : Int) (hat : at_ ≤ 9223372036854775807) : (movS a t at_).Ok := by
  unfold movS
  split
  · exact h
  · rename_i h0
    cases hf : findL t a.l with
    | none => exact h
    | some x =>
      have hx : x ∈ a.l := List.mem_of_find?_eq_some hf
      have ht : x.ticket = t := by have := List.find?_some hf; simpa using this
      have hg := h.given x hx
      have hd : ∀ y ∈ offL t a.l, x.ticket ≠ y.ticket := fun y hy e => (off_mem hy).2 (by rw [← e, ht])
      have hlen : (offL t a.l).length < a.l.length := by
        unfold offL
        have := List.length_filter_lt_length_iff_exists (l := a.l) (p := fun y => !decide (y.ticket = t))
        rw [this]
        exact ⟨x, hx, by simp [ht]⟩
      have hr := h.room
      refine ⟨lay_order _ _ (off_order t h.order) hd, lay_once _ _ (off_once t h.once) hd, fun y hy => ?_, h.n, by rw [layL_length]; omega⟩
      rcases (mem_layL _ _ _).1 hy with rfl | hy
      · simp only []
        omega
      · exact h.given y (off_mem hy).1
theorem dbl_ok {a : Ag} (h : a.Ok) (t at_ : Int) (hat : at_ ≤ 9223372036854775807) : (dblS a t at_).Ok := by
  unfold dblS
  cases findL t a.l with
  | none => exact h
  | some x => exact put_ok h _ _ _ hat
theorem tak_ok {a : Ag} (h : a.Ok) (now : Int) : (takS a now).Ok := by
  unfold takS
  split
  · cases hl : a.l with
    | nil =>
      refine ⟨List.Pairwise.nil, List.Pairwise.nil, by simp, h.n, Nat.zero_le _⟩
    | cons x l =>
      have o := h.order
      have n := h.once
      have g := h.given
      have r := h.room
      rw [hl] at o n g r
      exact ⟨(List.pairwise_cons.1 o).2, (List.pairwise_cons.1 n).2, fun y hy => g y (List.mem_cons_of_mem _ hy), h.n, by simp at r ⊢; omega⟩
  · exact h
/-- What is taken is the head, by its ticket. -/
theorem off_head {a : Ag} (h : a.Ok) {x : It} {l : List It} (hl : a.l = x :: l) : offL x.ticket a.l = l := by
  have n := h.once
  rw [hl] at n ⊢
  obtain ⟨n1, n2⟩ := List.pairwise_cons.1 n
  unfold offL
  rw [List.filter_cons, if_neg (by simp), List.filter_eq_self]
  intro y hy
  have := n1 y hy
  simp
  exact fun e => this e.symm
end Go.Proofs.Ytcnfidfpgohpoaa.W
