/- Layer 8: the code's heap of items in memory: a row of items, a map of their places. -/
import Derived.Test.YtcnfidfpgohpoaaAgP
import Derived.Test.YtcnfidfpgohpoaaAgB
import Derived.Maps.OwnSet
import Derived.Laws.OwnMore
import Derived.Lib.SmallJoins
namespace Go.Proofs.Ytcnfidfpgohpoaa.W
open Go.RowKit
set_option linter.unusedVariables false
set_option linter.unusedSimpArgs false
/-- A ticket as a key. -/
def tk (t : Int) : Lit := .int .i64 t
theorem tk_key (t : Int) : WideAt.IsKeyLit (tk t) := trivial
theorem tk_ne {t s : Int} (h : t ≠ s) : tk t ≠ tk s := fun e => h (by simpa [tk] using e)
def Uniq (h : List It) : Prop := h.Pairwise fun x y => x.ticket ≠ y.ticket
theorem Uniq.at_ {h : List It} (u : Uniq h) {i j : Nat} {x y : It} (hi : h[i]? = some x) (hj : h[j]? = some y) (e : x.ticket = y.ticket) : i = j := by
  obtain ⟨li, rfl⟩ := List.getElem?_eq_some_iff.1 hi
  obtain ⟨lj, rfl⟩ := List.getElem?_eq_some_iff.1 hj
  unfold Uniq at u
  rw [List.pairwise_iff_getElem] at u
  rcases Nat.lt_trichotomy i j with h1 | h1 | h1
  · exact absurd e (u i j li lj h1)
  · exact h1
  · exact absurd e.symm (u j i lj li h1)
theorem Uniq.perm {h h' : List It} (u : Uniq h) (p : h'.Perm h) : Uniq h' := (p.pairwise_iff (fun {_ _} hne => Ne.symm hne)).2 u
theorem has_perm {h h' : List It} (p : h'.Perm h) (t : Int) : hasL t h' = hasL t h := by
  unfold hasL
  rw [Bool.eq_iff_iff, List.any_eq_true, List.any_eq_true]
  constructor
  · rintro ⟨x, hx, e⟩
    exact ⟨x, p.mem_iff.1 hx, e⟩
  · rintro ⟨x, hx, e⟩
    exact ⟨x, p.mem_iff.2 hx, e⟩
theorem has_at {h : List It} {t : Int} (e : hasL t h = true) : ∃ (i : Nat) (x : It), h[i]? = some x ∧ x.ticket = t := by
  unfold hasL at e
  obtain ⟨x, hx, ht⟩ := List.any_eq_true.1 e
  obtain ⟨i, hi, rfl⟩ := List.getElem_of_mem hx
  exact ⟨i, _, List.getElem?_eq_getElem hi, by simpa using ht⟩
theorem has_of {h : List It} {i : Nat} {x : It} (e : h[i]? = some x) : hasL x.ticket h = true := by
  unfold hasL
  rw [List.any_eq_true]
  exact ⟨x, List.mem_of_getElem? e, by simp⟩
/-- Where each ticket's item stands. -/
structure Pl (D : DataW Nat) (h : List It) : Prop where
  has : ∀ t : Int, Maps.has D (tk t) = hasL t h
  at_ : ∀ (i : Nat) (x : It), h[i]? = some x → ∀ z, D.atKey (tk x.ticket) z = .lit (.int .i64 i)
  size : Maps.size D = h.length
theorem pl_nil : Pl (.map []) [] := ⟨fun _ => rfl, fun i x h => by simp at h, rfl⟩
theorem pl_push {D : DataW Nat} {h : List It} (p : Pl D h) (T : Maps.Tidy D) (x : It) (hx : hasL x.ticket h = false) : Pl (D.put (tk x.ticket) (.lit (.int .i64 (h.length : Nat)))) (h ++ [x]) := by
  refine ⟨fun t => ?_, fun i y hy z => ?_, ?_⟩
  · by_cases e : t = x.ticket
    · subst e
      rw [Maps.has_put_same T.isMap (tk_key _)]
      unfold hasL
      simp
    · rw [Maps.has_put_other (tk_ne e), p.has]
      unfold hasL
      simp [show ¬ x.ticket = t from fun h => e h.symm]
  · by_cases hi : i < h.length
    · rw [List.getElem?_append_left hi] at hy
      have : y.ticket ≠ x.ticket := fun e => by
        have := has_of hy
        rw [e, hx] at this
        cases this
      rw [Maps.atKey_put_other (tk_ne this)]
      exact p.at_ i y hy z
    · have hl := (List.getElem?_eq_some_iff.1 hy).1
      simp at hl
      obtain rfl : i = h.length := by omega
      simp at hy
      subst hy
      rw [Maps.atKey_put_same T.isMap (tk_key _)]
  · rw [Maps.size_put T, p.has, hx, p.size]
    simp
theorem pl_swap {D : DataW Nat} {h : List It} (p : Pl D h) (T : Maps.Tidy D) (u : Uniq h) {i j : Nat} {a b : It} (hi : h[i]? = some a) (hj : h[j]? = some b) :
    Pl ((D.put (tk b.ticket) (.lit (.int .i64 (i : Nat)))).put (tk a.ticket) (.lit (.int .i64 (j : Nat)))) (swapL h i j a b) := by
  have T1 := T.put (tk_key b.ticket) (.lit (.int .i64 (i : Nat)))
  have hb1 : Maps.has D (tk b.ticket) = true := by rw [p.has]; exact has_of hj
  have ha1 : Maps.has (D.put (tk b.ticket) (.lit (.int .i64 (i : Nat)))) (tk a.ticket) = true := by
    by_cases e : a.ticket = b.ticket
    · rw [e]; exact Maps.has_put_same T.isMap (tk_key _) _
    · rw [Maps.has_put_other (tk_ne e), p.has]; exact has_of hi
  refine ⟨fun t => ?_, fun k y hy z => ?_, ?_⟩
  · rw [has_perm (swap_perm hi hj)]
    by_cases e : t = a.ticket
    · subst e
      rw [Maps.has_put_same T1.isMap (tk_key _), has_of hi]
    · rw [Maps.has_put_other (tk_ne e)]
      by_cases e' : t = b.ticket
      · subst e'
        rw [Maps.has_put_same T.isMap (tk_key _), has_of hj]
      · rw [Maps.has_put_other (tk_ne e'), p.has]
  · rw [swap_at hi hj] at hy
    by_cases h1 : k = j
    · rw [if_pos h1] at hy
      cases hy
      rw [Maps.atKey_put_same T1.isMap (tk_key _), h1]
    · rw [if_neg h1] at hy
      by_cases h2 : k = i
      · rw [if_pos h2] at hy
        cases hy
        have hne : b.ticket ≠ a.ticket := fun e => h1 (by rw [h2, u.at_ hi hj e.symm])
        rw [Maps.atKey_put_other (tk_ne hne), Maps.atKey_put_same T.isMap (tk_key _), h2]
      · rw [if_neg h2] at hy
        have n1 : y.ticket ≠ a.ticket := fun e => h2 (u.at_ hy hi e)
        have n2 : y.ticket ≠ b.ticket := fun e => h1 (u.at_ hy hj e)
        rw [Maps.atKey_put_other (tk_ne n1), Maps.atKey_put_other (tk_ne n2)]
        exact p.at_ k y hy z
  · rw [Maps.size_put T1, ha1, if_pos rfl, Maps.size_put T, hb1, if_pos rfl, p.size, swap_len]
theorem pl_del {D : DataW Nat} {h : List It} {x : It} (p : Pl D (h ++ [x])) (T : Maps.Tidy D) (u : Uniq (h ++ [x])) : Pl (D.del (tk x.ticket)) h := by
  have hx : (h ++ [x])[h.length]? = some x := by simp
  have hno : ∀ (i : Nat) (y : It), h[i]? = some y → y.ticket ≠ x.ticket := fun i y hy e => by
    have hl := (List.getElem?_eq_some_iff.1 hy).1
    have := u.at_ (i := i) (j := h.length) (by rw [List.getElem?_append_left hl]; exact hy) hx e
    omega
  refine ⟨fun t => ?_, fun i y hy z => ?_, ?_⟩
  · by_cases e : t = x.ticket
    · subst e
      rw [Maps.has_del_same]
      cases hh : hasL x.ticket h with
      | false => rfl
      | true =>
        obtain ⟨i, y, h1, h2⟩ := has_at hh
        exact absurd h2 (hno i y h1)
    · rw [Maps.has_del_other (tk_ne e), p.has]
      unfold hasL
      simp [show ¬ x.ticket = t from fun h => e h.symm]
  · rw [Maps.atKey_del_other (tk_ne (hno i y hy))]
    have hl := (List.getElem?_eq_some_iff.1 hy).1
    exact p.at_ i y (by rw [List.getElem?_append_left hl]; exact hy) z
  · have e1 := Maps.size_del (k := tk x.ticket) T
    rw [p.has, has_of hx, p.size] at e1
    simp at e1
    omega
theorem pl_move {D : DataW Nat} {h : List It} (p : Pl D h) {i : Nat} {x : It} (hi : h[i]? = some x) (y : It) (hy : y.ticket = x.ticket) : Pl D (h.set i y) := by
  have li := (List.getElem?_eq_some_iff.1 hi).1
  have hat : ∀ (k : Nat) (z : It), (h.set i y)[k]? = some z → ∃ z', h[k]? = some z' ∧ z'.ticket = z.ticket := fun k z hz => by
    by_cases e : k = i
    · subst e
      rw [List.getElem?_set_self li] at hz
      cases hz
      exact ⟨x, hi, hy.symm⟩
    · rw [List.getElem?_set_ne (fun h => e h.symm)] at hz
      exact ⟨z, hz, rfl⟩
  have hat' : ∀ (k : Nat) (z : It), h[k]? = some z → ∃ z', (h.set i y)[k]? = some z' ∧ z'.ticket = z.ticket := fun k z hz => by
    by_cases e : k = i
    · subst e
      rw [hi] at hz
      cases hz
      exact ⟨y, List.getElem?_set_self li, hy⟩
    · exact ⟨z, by rw [List.getElem?_set_ne (fun h => e h.symm)]; exact hz, rfl⟩
  refine ⟨fun t => ?_, fun k z hz v => ?_, by rw [p.size]; simp⟩
  · rw [p.has, Bool.eq_iff_iff]
    constructor
    · intro h1
      obtain ⟨k, z, h2, rfl⟩ := has_at h1
      obtain ⟨z', h3, h4⟩ := hat' k z h2
      rw [← h4]
      exact has_of h3
    · intro h1
      obtain ⟨k, z, h2, rfl⟩ := has_at h1
      obtain ⟨z', h3, h4⟩ := hat k z h2
      rw [← h4]
      exact has_of h3
  · obtain ⟨z', h3, h4⟩ := hat k z hz
    rw [← h4]
    exact p.at_ k z' h3 v
theorem uniq_move {h : List It} (u : Uniq h) {i : Nat} {x : It} (hi : h[i]? = some x) (y : It) (hy : y.ticket = x.ticket) : Uniq (h.set i y) := by
  have li := (List.getElem?_eq_some_iff.1 hi).1
  have hat : ∀ (k : Nat) (z : It), (h.set i y)[k]? = some z → ∃ z', h[k]? = some z' ∧ z'.ticket = z.ticket := fun k z hz => by
    by_cases e : k = i
    · subst e
      rw [List.getElem?_set_self li] at hz
      cases hz
      exact ⟨x, hi, hy.symm⟩
    · rw [List.getElem?_set_ne (fun h => e h.symm)] at hz
      exact ⟨z, hz, rfl⟩
  unfold Uniq
  rw [List.pairwise_iff_getElem]
  intro p q hp hq hlt e
  obtain ⟨z, h1, h2⟩ := hat p _ (List.getElem?_eq_getElem hp)
  obtain ⟨z', h3, h4⟩ := hat q _ (List.getElem?_eq_getElem hq)
  have := u.at_ h1 h3 (by rw [h2, h4, e])
  omega
/-- Storing an item's four cells. -/
theorem flat_set : ∀ (h : List It) (i : Nat) (x : It), i < h.length → ((((h.flatMap itE).set (i * 4) (.int .i64 x.at_)).set (i * 4 + 1) (.int .i64 x.kind)).set (i * 4 + 2) (.string (bs x.data))).set (i * 4 + 3) (.int .i64 x.ticket) = (h.set i x).flatMap itE
  | [], i, x, hi => by simp at hi
  | y :: h, 0, x, hi => by simp [itE]
  | y :: h, i + 1, x, hi => by
    have ih := flat_set h i x (by simpa using hi)
    have e : ∀ (l : List Value) (k : Nat) (v : Value), (itE y ++ l).set (i * 4 + 4 + k) v = itE y ++ l.set (i * 4 + k) v := fun l k v => by
      rw [List.set_append_right _ _ (by rw [itE_length]; omega), itE_length]
      congr 2
      omega
    have e0 : ∀ (l : List Value) (v : Value), (itE y ++ l).set (i * 4 + 4) v = itE y ++ l.set (i * 4) v := fun l v => e l 0 v
    rw [List.flatMap_cons, List.set_cons_succ, List.flatMap_cons, show (i + 1) * 4 = i * 4 + 4 by omega, e0, e _ 1, e _ 2, e _ 3, ih]
theorem flat_set1 : ∀ (h : List It) (i : Nat) (x : It) (a : Int), h[i]? = some x → (h.flatMap itE).set (i * 4) (.int .i64 a) = (h.set i ⟨a, x.kind, x.data, x.ticket⟩).flatMap itE
  | [], i, x, a, hi => by simp at hi
  | y :: h, 0, x, a, hi => by
    simp at hi
    subst hi
    simp [itE]
  | y :: h, i + 1, x, a, hi => by
    have ih := flat_set1 h i x a (by simpa using hi)
    rw [List.flatMap_cons, List.set_cons_succ, List.flatMap_cons, show (i + 1) * 4 = i * 4 + 4 by omega, List.set_append_right _ _ (by rw [itE_length]; omega), itE_length, show i * 4 + 4 - 4 = i * 4 by omega, ih]
theorem row_of_block {w w' : World} {base : Nat} {e : TypeId} {size n : Nat} {v : Value} {xs : List Value} (h : w.ownsRow base e size v n xs) (hk : ∀ g, v.ownBlock = some g → w'.heap[g]? = w.heap[g]?) : w'.ownsRow base e size v n xs := by
  rcases h.2 with h0 | ⟨g, cap, cur, rfl, h1, h2, h3⟩
  · exact ⟨h.1, .inl h0⟩
  · exact ⟨h.1, .inr ⟨g, cap, cur, rfl, h1, (hk g rfl).trans h2, h3⟩⟩
theorem map_of_block {w w' : World} {P : Program} {k : TypeId} {R : Value → Option (DataW Nat × List MemPlace)} {b n : Nat} {D : DataW Nat} (h : w.ownsMap P k R b n D) (hk : w'.heap[b]? = w.heap[b]?) : w'.ownsMap P k R b n D := by
  obtain ⟨es, clock, hb, r⟩ := h
  exact ⟨es, clock, hk.trans hb, r⟩
/-- A map has as many entries as it tells. -/
theorem map_tight {w : World} {P : Program} {k : TypeId} {R : Value → Option (DataW Nat × List MemPlace)} {b n : Nat} {D : DataW Nat} (h : w.ownsMap P k R b n D) : w.ownsMap P k R b (Maps.size D) D := by
  obtain ⟨es, clock, hb, F, hs, rfl⟩ := h
  refine ⟨es, clock, hb, F, ?_, rfl⟩
  show es.size ≤ ((es.toList.map _).foldr DataW.insert []).length
  rw [length_sorted]
  simp
theorem int_key : Maps.Keyed Try.prog 3 := Maps.int_keyed Try.underlying3
abbrev MapAt (w : World) (m n : Nat) (D : DataW Nat) : Prop := w.ownsMap Try.prog 3 (plainElem Try.prog 3) m n D
/-- The code's heap at block hb: its row v, its map m, its items h, how many tickets there were. -/
structure Hv (w : World) (hb : Nat) (v : Value) (m : Nat) (h : List It) (n : Int) : Prop where
  blk : w.heap[hb]? = some (.cells #[v, .map (some m), .int .i64 n] 65 (0, 0))
  row : w.ownsRow 0 39 4 v h.length (h.flatMap itE)
  map : ∃ D, MapAt w m h.length D ∧ Pl D h
  ne : hb ≠ m
  own : ∀ g, v.ownBlock = some g → g ≠ hb ∧ g ≠ m
  len : h.length ≤ 100000
  tks : ∀ x ∈ h, 0 ≤ x.ticket ∧ x.ticket ≤ 1000000000
  uniq : Uniq h
theorem Hv.kept {w w' : World} {hb m : Nat} {v : Value} {h : List It} {n : Int} (x : Hv w hb v m h n) (hk : ∀ k, (k = hb ∨ k = m ∨ v.ownBlock = some k) → w'.heap[k]? = w.heap[k]?) : Hv w' hb v m h n := by
  obtain ⟨D, h1, h2⟩ := x.map
  exact ⟨(hk hb (.inl rfl)).trans x.blk, row_of_block x.row (fun g hg => hk g (.inr (.inr hg))), ⟨D, map_of_block h1 (hk m (.inr (.inl rfl))), h2⟩, x.ne, x.own, x.len, x.tks, x.uniq⟩
theorem Hv.below {w w' : World} {hb m : Nat} {v : Value} {h : List It} {n : Int} (x : Hv w hb v m h n) (hB : Below w.heap.size w w') : Hv w' hb v m h n := by
  obtain ⟨D, h1, h2⟩ := x.map
  refine x.kept fun k hk => hB.block k ?_
  rcases hk with rfl | rfl | hk
  · exact (Array.getElem?_eq_some_iff.1 x.blk).1
  · exact h1.lt
  · exact (x.row.lt k hk).2
theorem Hv.lt {w : World} {hb m : Nat} {v : Value} {h : List It} {n : Int} (x : Hv w hb v m h n) : hb < w.heap.size ∧ m < w.heap.size ∧ ∀ g, v.ownBlock = some g → g < w.heap.size := by
  obtain ⟨D, h1, h2⟩ := x.map
  exact ⟨(Array.getElem?_eq_some_iff.1 x.blk).1, h1.lt, fun g hg => (x.row.lt g hg).2⟩
theorem three_cells {w : World} {p : Nat} {a b c : Value} {t : TypeId} (h : w.heap[p]? = some (.cells #[a, b, c] t (0, 0))) :
    w.cell? ⟨p, 0, none⟩ = some a ∧ w.cell? ⟨p, 1, none⟩ = some b ∧ w.cell? ⟨p, 2, none⟩ = some c ∧ w.frozen? ⟨p, 0, none⟩ = false ∧ w.frozen? ⟨p, 1, none⟩ = false ∧ w.frozen? ⟨p, 2, none⟩ = false := by
  refine ⟨?_, ?_, ?_, ?_, ?_, ?_⟩ <;> simp [World.cell?, World.frozen?, h]
/-- Where there is an item there is a row. -/
theorem Hv.at_ {w : World} {hb m : Nat} {v : Value} {h : List It} {n : Int} (x : Hv w hb v m h n) (h0 : 0 < h.length) : ∃ g cap, v = .slice (some ⟨g, 0, none⟩) h.length cap := Joins.ownsRow_form x.row h0
theorem row_cells {w : World} {g cap : Nat} {h : List It} (r : w.ownsRow 0 39 4 (.slice (some ⟨g, 0, none⟩) h.length cap) h.length (h.flatMap itE)) {i : Nat} {x : It} (hi : h[i]? = some x) :
    w.cell? ⟨g, i * 4, none⟩ = some (.int .i64 x.at_) ∧ w.cell? ⟨g, i * 4 + 1, none⟩ = some (.int .i64 x.kind) ∧ w.cell? ⟨g, i * 4 + 2, none⟩ = some (.string (bs x.data)) ∧ w.cell? ⟨g, i * 4 + 3, none⟩ = some (.int .i64 x.ticket) := by
  have li := (List.getElem?_eq_some_iff.1 hi).1
  have c : ∀ j u, (itE x)[j]? = some u → w.cell? ⟨g, i * 4 + j, none⟩ = some u := fun j u hu => by
    have hj : j < 4 := by have := (List.getElem?_eq_some_iff.1 hu).1; rw [itE_length] at this; exact this
    rw [World.ownsRow.cellAt r (i * 4 + j) (by omega)]
    exact flat_at 4 itE itE_length h i x hi j u hu
  exact ⟨c 0 _ rfl, c 1 _ rfl, c 2 _ rfl, c 3 _ rfl⟩
theorem row_frozen {w : World} {g cap n : Nat} {xs : List Value} (r : w.ownsRow 0 39 4 (.slice (some ⟨g, 0, none⟩) n cap) n xs) (j : Nat) : w.frozen? ⟨g, j, none⟩ = false := World.ownsRow.frozenAt r j
theorem row_set {w : World} {g cap n : Nat} {h : List It} (r : w.ownsRow 0 39 4 (.slice (some ⟨g, 0, none⟩) n cap) n (h.flatMap itE)) (i : Nat) (x : It) (hi : i < h.length) :
    ((((w.setCell ⟨g, i * 4, none⟩ (.int .i64 x.at_)).setCell ⟨g, i * 4 + 1, none⟩ (.int .i64 x.kind)).setCell ⟨g, i * 4 + 2, none⟩ (.string (bs x.data))).setCell ⟨g, i * 4 + 3, none⟩ (.int .i64 x.ticket)).ownsRow 0 39 4 (.slice (some ⟨g, 0, none⟩) n cap) n ((h.set i x).flatMap itE) := by
  have r1 := (World.ownsRow.stored r (i * 4) (.int .i64 x.at_)).1
  have r2 := (World.ownsRow.stored r1 (i * 4 + 1) (.int .i64 x.kind)).1
  have r3 := (World.ownsRow.stored r2 (i * 4 + 2) (.string (bs x.data))).1
  have r4 := (World.ownsRow.stored r3 (i * 4 + 3) (.int .i64 x.ticket)).1
  rw [flat_set h i x hi] at r4
  exact r4
theorem nb_heap {h : List It} (u : HeapF h) (i : Nat) : Dn h i := by
  refine ⟨fun j x y hj _ hx hy => u j x y hj hx hy, fun j x y h0 hj hpar hx hy => ?_⟩
  have hl := (List.getElem?_eq_some_iff.1 hx).1
  obtain ⟨m, hm⟩ : ∃ m, h[i]? = some m := ⟨_, List.getElem?_eq_getElem (by omega)⟩
  exact nb_trans (u i m y h0 hm hy) (u j x m hj hx (by rw [hpar]; exact hm))
theorem hole_of_up {h : List It} {i : Nat} (u : Up h i) : Hole h i := ⟨fun j x y hj hne _ hx hy => u.rest j x y hj hne hx hy, u.kids⟩
end Go.Proofs.Ytcnfidfpgohpoaa.W
