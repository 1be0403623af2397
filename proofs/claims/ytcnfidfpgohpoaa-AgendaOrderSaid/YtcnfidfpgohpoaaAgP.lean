/- Layer 8: heaps of items as lists. No program in it. -/
import Derived.Test.YtcnfidfpgohpoaaAgA
namespace Go.Proofs.Ytcnfidfpgohpoaa.W
open Go.RowKit
set_option linter.unusedVariables false
/-- x does not stand behind y. -/
def nb (x y : It) : Prop := ahead y x = false
theorem nb_iff (x y : It) : nb x y ↔ (x.at_ < y.at_ ∨ (x.at_ = y.at_ ∧ x.ticket ≤ y.ticket)) := by
  unfold nb
  rw [Bool.eq_false_iff, Ne, ahead_iff]
  omega
theorem nb_refl (x : It) : nb x x := (nb_iff x x).2 (by omega)
theorem nb_trans {x y z : It} (h : nb x y) (k : nb y z) : nb x z := by rw [nb_iff] at *; omega
theorem nb_of_ahead {x y : It} (h : ahead x y = true) : nb x y := by rw [ahead_iff] at h; rw [nb_iff]; omega
/-- No item stands ahead of the one above it. -/
def HeapF (h : List It) : Prop := ∀ j x y, 0 < j → h[j]? = some x → h[(j - 1) / 2]? = some y → nb y x
def swapL (h : List It) (i j : Nat) (a b : It) : List It := (h.set i b).set j a
theorem swap_len (h : List It) (i j : Nat) (a b : It) : (swapL h i j a b).length = h.length := by simp [swapL]
theorem swap_at {h : List It} {i j : Nat} {a b : It} (hi : h[i]? = some a) (hj : h[j]? = some b) (k : Nat) : (swapL h i j a b)[k]? = if k = j then some a else if k = i then some b else h[k]? := by
  have li := (List.getElem?_eq_some_iff.1 hi).1
  have lj := (List.getElem?_eq_some_iff.1 hj).1
  unfold swapL
  by_cases h1 : k = j
  · subst h1
    rw [List.getElem?_set_self (by simpa using lj), if_pos rfl]
  · rw [List.getElem?_set_ne (fun e => h1 e.symm), if_neg h1]
    by_cases h2 : k = i
    · subst h2
      rw [List.getElem?_set_self li, if_pos rfl]
    · rw [List.getElem?_set_ne (fun e => h2 e.symm), if_neg h2]
theorem swap_perm {h : List It} {i j : Nat} {a b : It} (hi : h[i]? = some a) (hj : h[j]? = some b) : (swapL h i j a b).Perm h := by
  obtain ⟨li, ea⟩ := List.getElem?_eq_some_iff.1 hi
  obtain ⟨lj, eb⟩ := List.getElem?_eq_some_iff.1 hj
  have p := Array.swap_perm (xs := h.toArray) (i := i) (j := j) (by simpa using li) (by simpa using lj)
  have e : (h.toArray.swap i j (by simpa using li) (by simpa using lj)).toList = swapL h i j a b := by
    unfold swapL
    rw [Array.swap]
    simp [ea, eb]
  rw [← e]
  exact Array.perm_iff_toList_perm.1 p
/-- All is well but for the item at i, which may have to go up. -/
structure Up (h : List It) (i : Nat) : Prop where
  rest : ∀ j x y, 0 < j → j ≠ i → h[j]? = some x → h[(j - 1) / 2]? = some y → nb y x
  kids : ∀ j x y, 0 < i → 0 < j → (j - 1) / 2 = i → h[j]? = some x → h[(i - 1) / 2]? = some y → nb y x
/-- All is well but for the item at i, which may have to go down. -/
structure Dn (h : List It) (i : Nat) : Prop where
  rest : ∀ j x y, 0 < j → (j - 1) / 2 ≠ i → h[j]? = some x → h[(j - 1) / 2]? = some y → nb y x
  kids : ∀ j x y, 0 < i → 0 < j → (j - 1) / 2 = i → h[j]? = some x → h[(i - 1) / 2]? = some y → nb y x
/-- All is well but for the item at i. -/
structure Hole (h : List It) (i : Nat) : Prop where
  rest : ∀ j x y, 0 < j → j ≠ i → (j - 1) / 2 ≠ i → h[j]? = some x → h[(j - 1) / 2]? = some y → nb y x
  kids : ∀ j x y, 0 < i → 0 < j → (j - 1) / 2 = i → h[j]? = some x → h[(i - 1) / 2]? = some y → nb y x
theorem up_done {h : List It} {i : Nat} (u : Up h i) (hd : ∀ x y, 0 < i → h[i]? = some x → h[(i - 1) / 2]? = some y → nb y x) : HeapF h := by
  intro j x y hj hx hy
  by_cases e : j = i
  · subst e
    exact hd x y hj hx hy
  · exact u.rest j x y hj e hx hy
theorem up_swap {h : List It} {i : Nat} {x y : It} (u : Up h i) (hi : 0 < i) (hx : h[i]? = some x) (hy : h[(i - 1) / 2]? = some y) (ha : ahead x y = true) : Up (swapL h i ((i - 1) / 2) x y) ((i - 1) / 2) := by
  have hxy := nb_of_ahead ha
  refine ⟨fun j p q hj hne hp hq => ?_, fun j p q h0 hj hpar hp hq => ?_⟩
  · rw [swap_at hx hy] at hp hq
    rw [if_neg hne] at hp
    by_cases e1 : j = i
    · subst e1
      rw [if_pos rfl] at hp hq
      cases hp; cases hq
      exact hxy
    · rw [if_neg e1] at hp
      by_cases e2 : (j - 1) / 2 = (i - 1) / 2
      · rw [if_pos e2] at hq
        cases hq
        exact nb_trans hxy (u.rest j p y hj e1 hp (by rw [e2]; exact hy))
      · rw [if_neg e2] at hq
        by_cases e3 : (j - 1) / 2 = i
        · rw [if_pos e3] at hq
          cases hq
          exact u.kids j p _ hi hj e3 hp hy
        · rw [if_neg e3] at hq
          exact u.rest j p q hj e1 hp hq
  · rw [swap_at hx hy] at hp hq
    have n1 : ¬ ((i - 1) / 2 - 1) / 2 = (i - 1) / 2 := by omega
    have n2 : ¬ ((i - 1) / 2 - 1) / 2 = i := by omega
    have n3 : ¬ j = (i - 1) / 2 := by omega
    rw [if_neg n1, if_neg n2] at hq
    rw [if_neg n3] at hp
    have hup : nb q y := u.rest ((i - 1) / 2) y q h0 (by omega) hy hq
    by_cases e1 : j = i
    · subst e1
      rw [if_pos rfl] at hp
      cases hp
      exact hup
    · rw [if_neg e1] at hp
      exact nb_trans hup (u.rest j p y hj e1 hp (by rw [hpar]; exact hy))
theorem dn_done {h : List It} {i : Nat} (u : Dn h i) (hd : ∀ j x y, 0 < j → (j - 1) / 2 = i → h[j]? = some x → h[i]? = some y → nb y x) : HeapF h := by
  intro j x y hj hx hy
  by_cases e : (j - 1) / 2 = i
  · exact hd j x y hj e hx (by rw [← e]; exact hy)
  · exact u.rest j x y hj e hx hy
theorem dn_swap {h : List It} {i c : Nat} {x z : It} (u : Dn h i) (hc : 0 < c) (hpar : (c - 1) / 2 = i) (hx : h[i]? = some x) (hz : h[c]? = some z) (ha : ahead z x = true)
    (hb : ∀ j y, 0 < j → (j - 1) / 2 = i → h[j]? = some y → nb z y) : Dn (swapL h i c x z) c := by
  have hzx := nb_of_ahead ha
  have hic : i ≠ c := by omega
  refine ⟨fun j p q hj hne hp hq => ?_, fun j p q h0 hj hpj hp hq => ?_⟩
  · rw [swap_at hx hz] at hp hq
    rw [if_neg hne] at hq
    by_cases e1 : j = c
    · subst e1
      rw [if_pos rfl] at hp
      rw [if_pos hpar] at hq
      cases hp; cases hq
      exact hzx
    · rw [if_neg e1] at hp
      by_cases e2 : j = i
      · subst e2
        rw [if_pos rfl] at hp
        cases hp
        rw [if_neg (by omega)] at hq
        exact u.kids c _ q hj hc hpar hz hq
      · rw [if_neg e2] at hp
        by_cases e3 : (j - 1) / 2 = i
        · rw [if_pos e3] at hq
          cases hq
          exact hb j p hj e3 hp
        · rw [if_neg e3] at hq
          exact u.rest j p q hj e3 hp hq
  · rw [swap_at hx hz] at hp hq
    rw [if_neg (by omega), if_pos hpar] at hq
    cases hq
    rw [if_neg (by omega), if_neg (by omega)] at hp
    exact u.rest j p _ hj (by omega) hp (by rw [hpj]; exact hz)
theorem hole_up {h : List It} {i : Nat} {x y : It} (u : Hole h i) (hi : 0 < i) (hx : h[i]? = some x) (hy : h[(i - 1) / 2]? = some y) (ha : ahead x y = true) : Up h i := by
  refine ⟨fun j p q hj hne hp hq => ?_, u.kids⟩
  by_cases e : (j - 1) / 2 = i
  · rw [e, hx] at hq
    cases hq
    exact nb_trans (nb_of_ahead ha) (u.kids j p y hi hj e hp hy)
  · exact u.rest j p q hj hne e hp hq
theorem hole_dn {h : List It} {i : Nat} (u : Hole h i) (hd : ∀ x y, 0 < i → h[i]? = some x → h[(i - 1) / 2]? = some y → nb y x) : Dn h i := by
  refine ⟨fun j p q hj hne hp hq => ?_, u.kids⟩
  by_cases e : j = i
  · subst e
    exact hd p q hj hp hq
  · exact u.rest j p q hj e hne hp hq
theorem hole_set {h : List It} (u : HeapF h) (i : Nat) (x : It) : Hole (h.set i x) i := by
  refine ⟨fun j p q hj hne hnp hp hq => ?_, fun j p q h0 hj hpar hp hq => ?_⟩
  · rw [List.getElem?_set_ne (fun e => hne e.symm)] at hp
    rw [List.getElem?_set_ne (fun e => hnp e.symm)] at hq
    exact u j p q hj hp hq
  · rw [List.getElem?_set_ne (by omega)] at hp
    rw [List.getElem?_set_ne (by omega)] at hq
    by_cases hl : i < h.length
    · obtain ⟨m, hm⟩ : ∃ m, h[i]? = some m := ⟨_, List.getElem?_eq_getElem hl⟩
      exact nb_trans (u i m q h0 hm hq) (u j p m hj hp (by rw [hpar]; exact hm))
    · have := (List.getElem?_eq_some_iff.1 hp).1
      omega
theorem take_some {l : List It} {n k : Nat} {x : It} (h : (l.take n)[k]? = some x) : k < n ∧ l[k]? = some x := by
  have hk := (List.getElem?_eq_some_iff.1 h).1
  have : k < n := by rw [List.length_take] at hk; omega
  exact ⟨this, by rwa [List.getElem?_take_of_lt this] at h⟩
theorem hole_take {h : List It} {i : Nat} (u : Hole h i) (n : Nat) : Hole (h.take n) i :=
  ⟨fun j p q hj hne hnp hp hq => u.rest j p q hj hne hnp (take_some hp).2 (take_some hq).2, fun j p q h0 hj hpar hp hq => u.kids j p q h0 hj hpar (take_some hp).2 (take_some hq).2⟩
theorem heap_take {h : List It} (u : HeapF h) (n : Nat) : HeapF (h.take n) := fun j p q hj hp hq => u j p q hj (take_some hp).2 (take_some hq).2
theorem up_push {h : List It} (u : HeapF h) (x : It) : Up (h ++ [x]) h.length := by
  refine ⟨fun j p q hj hne hp hq => ?_, fun j p q h0 hj hpar hp hq => ?_⟩
  · have hl := (List.getElem?_eq_some_iff.1 hp).1
    simp at hl
    rw [List.getElem?_append_left (by omega)] at hp hq
    exact u j p q hj hp hq
  · have hl := (List.getElem?_eq_some_iff.1 hp).1
    simp at hl
    omega
theorem heap_nil : HeapF [] := fun j p q hj hp _ => by simp at hp
theorem heap_root {h : List It} (u : HeapF h) {r : It} (hr : h[0]? = some r) : ∀ (j : Nat) (x : It), h[j]? = some x → nb r x := by
  intro j
  induction j using Nat.strongRecOn with
  | _ j ih =>
    intro x hx
    by_cases e : j = 0
    · subst e
      rw [hr] at hx
      cases hx
      exact nb_refl _
    · have hl := (List.getElem?_eq_some_iff.1 hx).1
      obtain ⟨m, hm⟩ : ∃ m, h[(j - 1) / 2]? = some m := ⟨_, List.getElem?_eq_getElem (by omega)⟩
      exact nb_trans (ih _ (by omega) m hm) (u j x m (by omega) hx hm)
/-- The root of a heap of an agenda's items is the first one in order. -/
theorem root_head {a : Ag} (ok : a.Ok) {h : List It} (u : HeapF h) (p : h.Perm a.l) : h[0]? = a.l.head? := by
  cases hl : a.l with
  | nil =>
    have := p.length_eq
    rw [hl] at this
    have : h = [] := List.length_eq_zero_iff.1 this
    rw [this]
    rfl
  | cons x l =>
    have hlen := p.length_eq
    rw [hl] at hlen
    have h0 : 0 < h.length := by rw [hlen]; simp
    obtain ⟨r, hr⟩ : ∃ r, h[0]? = some r := ⟨_, List.getElem?_eq_getElem h0⟩
    have hrm : r ∈ a.l := p.mem_iff.1 (List.mem_of_getElem? hr)
    have hxm : x ∈ h := p.mem_iff.2 (by rw [hl]; exact List.mem_cons_self ..)
    obtain ⟨j, hj, ej⟩ := List.getElem_of_mem hxm
    have hn := heap_root u hr j x (by rw [List.getElem?_eq_getElem hj, ej])
    rw [hr]
    show some r = some x
    congr 1
    rw [hl] at hrm
    rcases List.mem_cons.1 hrm with e | e
    · exact e
    · have ho := ok.order
      rw [hl] at ho
      have := (List.pairwise_cons.1 ho).1 r e
      unfold nb at hn
      rw [hn] at this
      cases this
/-- Two lists of an agenda's items that are both in order are one. -/
theorem order_unique : ∀ {l m : List It}, (l.Pairwise fun x y => ahead x y = true) → (m.Pairwise fun x y => ahead x y = true) → l.Perm m → l = m
  | [], m, _, _, p => by
    have := p.length_eq
    exact (List.length_eq_zero_iff.1 this.symm).symm
  | x :: l, m, hl, hm, p => by
    cases m with
    | nil => have := p.length_eq; cases this
    | cons y m =>
      obtain ⟨a1, a2⟩ := List.pairwise_cons.1 hl
      obtain ⟨b1, b2⟩ := List.pairwise_cons.1 hm
      have hxy : x = y := by
        rcases List.mem_cons.1 (p.mem_iff.1 (List.mem_cons_self ..) : x ∈ y :: m) with e | e
        · exact e
        · rcases List.mem_cons.1 (p.mem_iff.2 (List.mem_cons_self ..) : y ∈ x :: l) with e' | e'
          · exact e'.symm
          · have h1 := b1 x e
            have h2 := a1 y e'
            rw [ahead_iff] at h1 h2
            omega
      subst hxy
      rw [order_unique a2 b2 (p.cons_inv)]
theorem perm_lay (x : It) (l : List It) : (layL x l).Perm (x :: l) := by
  induction l with
  | nil => exact List.Perm.refl _
  | cons y l ih =>
    unfold layL
    split
    · exact List.Perm.refl _
    · exact (ih.cons y).trans (List.Perm.swap x y l)
theorem perm_off {a : Ag} (ok : a.Ok) {x : It} (hx : x ∈ a.l) : (x :: offL x.ticket a.l).Perm a.l := by
  have := lay_back x a.l ok.order ok.once hx
  exact ((perm_lay x (offL x.ticket a.l)).symm).trans (by rw [this])
theorem perm_off_of {a : Ag} (ok : a.Ok) {x : It} (hx : x ∈ a.l) {h : List It} (p : (x :: h).Perm a.l) : h.Perm (offL x.ticket a.l) := (p.trans (perm_off ok hx).symm).cons_inv
/-- The last one is put in i's place. -/
theorem perm_last {h : List It} {i : Nat} {x z : It} (hx : h[i]? = some x) (hz : h[h.length - 1]? = some z) (hi : i < h.length - 1) : (x :: (h.set i z).take (h.length - 1)).Perm h := by
  have e : (swapL h i (h.length - 1) x z) = (h.set i z).take (h.length - 1) ++ [x] := by
    apply List.ext_getElem?
    intro k
    rw [swap_at hx hz]
    have hl : ((h.set i z).take (h.length - 1)).length = h.length - 1 := by simp
    by_cases h1 : k = h.length - 1
    · rw [if_pos h1, List.getElem?_append_right (by omega), hl, h1]
      simp
    · rw [if_neg h1]
      by_cases h2 : k < h.length - 1
      · rw [List.getElem?_append_left (by omega), List.getElem?_take_of_lt h2]
        by_cases h3 : k = i
        · subst h3
          rw [if_pos rfl, List.getElem?_set_self (by omega)]
        · rw [if_neg h3, List.getElem?_set_ne (fun e => h3 e.symm)]
      · rw [if_neg (by omega), List.getElem?_eq_none (by omega), List.getElem?_append_right (by omega), hl, List.getElem?_eq_none (by simp; omega)]
  have p := swap_perm hx hz
  rw [e] at p
  exact (List.perm_append_singleton x _).symm.trans p
end Go.Proofs.Ytcnfidfpgohpoaa.W
