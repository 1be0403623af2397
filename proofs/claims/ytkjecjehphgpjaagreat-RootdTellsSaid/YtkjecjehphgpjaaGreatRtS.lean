/- Layer 15 as numbers: places sorted by a number. No program in it. -/
import Derived.Test.YtkjecjehphgpjaaGreatRtA
import Derived.Test.YtkjecjehphgpjaaGreatPlA
namespace Go.Proofs.YtkjecjehphgpjaaGreat.W
open Go.RowKit
set_option linter.unusedVariables false
theorem insP_mem {m : Nat → Int} {i x : Nat} {l : List Nat} : x ∈ insP m i l ↔ x = i ∨ x ∈ l := by
  induction l with
  | nil => simp [insP]
  | cons y l ih =>
    unfold insP
    split
    · simp
    · simp [ih]
      constructor
      · rintro (h | h | h)
        · exact .inr (.inl h)
        · exact .inl h
        · exact .inr (.inr h)
      · rintro (h | h | h)
        · exact .inr (.inl h)
        · exact .inl h
        · exact .inr (.inr h)
theorem insP_length (m : Nat → Int) (i : Nat) (l : List Nat) : (insP m i l).length = l.length + 1 := by
  induction l with
  | nil => rfl
  | cons y l ih =>
    unfold insP
    split
    · simp
    · simp [ih]
theorem insP_sorted {m : Nat → Int} (i : Nat) : ∀ {l : List Nat}, l.Pairwise (fun a b => m a ≤ m b) → (insP m i l).Pairwise (fun a b => m a ≤ m b)
  | [], _ => by simp [insP]
  | y :: l, h => by
    obtain ⟨h1, h2⟩ := List.pairwise_cons.1 h
    unfold insP
    split
    · rename_i hlt
      refine List.pairwise_cons.2 ⟨?_, h⟩
      intro x hx
      rcases List.mem_cons.1 hx with rfl | hx
      · omega
      · have := h1 x hx
        omega
    · rename_i hlt
      refine List.pairwise_cons.2 ⟨?_, insP_sorted i h2⟩
      intro x hx
      rcases insP_mem.1 hx with rfl | hx
      · omega
      · exact h1 x hx
/-- The first n places, sorted. -/
theorem sortP_next (m : Nat → Int) (n : Nat) : sortP m (n + 1) = insP m n (sortP m n) := by
  unfold sortP
  rw [List.range_succ, List.foldl_append]
  rfl
theorem sortP_length (m : Nat → Int) : ∀ n, (sortP m n).length = n
  | 0 => rfl
  | n + 1 => by rw [sortP_next, insP_length, sortP_length m n]
theorem sortP_sorted (m : Nat → Int) : ∀ n, (sortP m n).Pairwise (fun a b => m a ≤ m b)
  | 0 => List.Pairwise.nil
  | n + 1 => by rw [sortP_next]; exact insP_sorted n (sortP_sorted m n)
theorem sortP_mem (m : Nat → Int) : ∀ n x, x ∈ sortP m n ↔ x < n
  | 0, x => by
    show x ∈ [] ↔ x < 0
    simp
  | n + 1, x => by
    rw [sortP_next, insP_mem, sortP_mem m n x]
    omega
/-- What the law asks of two places beside each other. -/
theorem sortP_beside (m : Nat → Int) (n i : Nat) {a b : Nat} (ha : (sortP m n)[i]? = some a) (hb : (sortP m n)[i + 1]? = some b) : m a ≤ m b := by
  obtain ⟨h1, rfl⟩ := List.getElem?_eq_some_iff.1 ha
  obtain ⟨h2, rfl⟩ := List.getElem?_eq_some_iff.1 hb
  exact List.pairwise_iff_getElem.1 (sortP_sorted m n) i (i + 1) h1 h2 (by omega)
/-- Insertion, place by place: behind k places ahead of it, done or not. -/
def insA (m : Nat → Int) (i : Nat) (l : List Nat) (k : Nat) : List Nat := if (l.take k).any (fun x => decide (m i < m x)) then insP m i (l.take k) else l.take k
theorem insP_none {m : Nat → Int} {i : Nat} : ∀ {l : List Nat}, (∀ x ∈ l, ¬ m i < m x) → insP m i l = l ++ [i]
  | [], _ => rfl
  | y :: l, h => by
    unfold insP
    rw [if_neg (h y List.mem_cons_self), insP_none fun x hx => h x (List.mem_cons_of_mem _ hx)]
    rfl
theorem insP_append {m : Nat → Int} {i : Nat} : ∀ {l : List Nat} (r : List Nat), (∃ x ∈ l, m i < m x) → insP m i (l ++ r) = insP m i l ++ r
  | [], r, h => by
    obtain ⟨x, hx, _⟩ := h
    cases hx
  | y :: l, r, h => by
    show insP m i (y :: (l ++ r)) = _
    unfold insP
    by_cases hy : m i < m y
    · rw [if_pos hy, if_pos hy]
      rfl
    · rw [if_neg hy, if_neg hy, insP_append r (by
        obtain ⟨x, hx, hm⟩ := h
        rcases List.mem_cons.1 hx with rfl | hx
        · exact absurd hm hy
        · exact ⟨x, hx, hm⟩)]
      rfl
theorem insP_here {m : Nat → Int} {i y : Nat} : ∀ {l : List Nat}, (∀ x ∈ l, ¬ m i < m x) → m i < m y → insP m i (l ++ [y]) = l ++ [i, y]
  | [], _, hy => by
    show insP m i [y] = [i, y]
    unfold insP
    rw [if_pos hy]
  | z :: l, h, hy => by
    show insP m i (z :: (l ++ [y])) = _
    unfold insP
    rw [if_neg (h z List.mem_cons_self), insP_here (fun x hx => h x (List.mem_cons_of_mem _ hx)) hy]
    rfl
/-- The step of the inner loop: what stands, and whether it is done. -/
def doneB (m : Nat → Int) (i : Nat) (l : List Nat) (k : Nat) : Bool := (l.take k).any fun x => decide (m i < m x)
theorem done_step {m : Nat → Int} {i : Nat} {l : List Nat} {k y : Nat} (h : l[k]? = some y) : doneB m i l (k + 1) = (doneB m i l k || decide (m i < m y)) := by
  obtain ⟨hk, rfl⟩ := List.getElem?_eq_some_iff.1 h
  unfold doneB
  rw [List.take_succ_eq_append_getElem hk, List.any_append]
  simp
theorem insA_step {m : Nat → Int} {i : Nat} {l : List Nat} {k y : Nat} (h : l[k]? = some y) :
    insA m i l (k + 1) = if doneB m i l k = false ∧ m i < m y then insA m i l k ++ [i] ++ [y] else insA m i l k ++ [y] := by
  obtain ⟨hk, rfl⟩ := List.getElem?_eq_some_iff.1 h
  have ht := List.take_succ_eq_append_getElem hk
  by_cases hd : doneB m i l k = true
  · rw [if_neg (by rw [hd]; simp)]
    have h1 : (l.take k).any (fun x => decide (m i < m x)) = true := hd
    have h2 : (l.take (k + 1)).any (fun x => decide (m i < m x)) = true := by rw [ht, List.any_append, h1]; rfl
    unfold insA
    rw [if_pos h1, if_pos h2, ht]
    refine insP_append _ ?_
    obtain ⟨x, hx, hm⟩ := List.any_eq_true.1 h1
    exact ⟨x, hx, by simpa using hm⟩
  · have hd' : doneB m i l k = false := by simpa using hd
    have h1 : (l.take k).any (fun x => decide (m i < m x)) = false := hd'
    have hn : ∀ x ∈ l.take k, ¬ m i < m x := by
      intro x hx g
      have := List.any_eq_false.1 h1 x hx
      simp at this
      omega
    by_cases hy : m i < m l[k]
    · rw [if_pos ⟨hd', hy⟩]
      have h2 : (l.take (k + 1)).any (fun x => decide (m i < m x)) = true := by rw [ht, List.any_append]; simp [hy]
      unfold insA
      rw [if_pos h2, if_neg (by rw [h1]; simp), ht, insP_here hn hy]
      simp
    · rw [if_neg (fun g => hy g.2)]
      have h2 : (l.take (k + 1)).any (fun x => decide (m i < m x)) = false := by rw [ht, List.any_append, h1]; simp [hy]
      unfold insA
      rw [if_neg (by rw [h2]; simp), if_neg (by rw [h1]; simp), ht]
theorem insA_end {m : Nat → Int} {i : Nat} {l : List Nat} : insP m i l = if doneB m i l l.length = true then insA m i l l.length else insA m i l l.length ++ [i] := by
  have ht : l.take l.length = l := List.take_length
  unfold insA doneB
  rw [ht]
  by_cases h : l.any (fun x => decide (m i < m x)) = true
  · rw [if_pos h, if_pos h]
  · rw [if_neg h, if_neg h]
    refine insP_none fun x hx g => ?_
    refine h (List.any_eq_true.2 ⟨x, hx, by simpa using g⟩)
/-- The metric of the place i of a list. -/
def metN (p : Pm) (l : List Sv) (at_ : Int) (i : Nat) : Int := match l[i]? with
  | some s => metI p s at_
  | none => 0
end Go.Proofs.YtkjecjehphgpjaaGreat.W
