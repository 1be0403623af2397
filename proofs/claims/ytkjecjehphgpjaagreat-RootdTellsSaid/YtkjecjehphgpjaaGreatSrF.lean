import Derived.Sort.LotA
import Derived.Test.YtkjecjehphgpjaaGreatChecked
import Derived.Shelf.SlSortCmp.Insertion1
import Derived.Sort.WalkB2
import Derived.Sort.WalkB12
import Derived.Deep.LoopGhost
import Derived.Lib.Hide
import Derived.Deep.DeepCutAuto
import Derived.Sort.WalkA
import Derived.Test.YtkjecjehphgpjaaGreatFwC
/- Go's merging in place (slices.SortStableFunc of more than one block), as arrays: what each step makes of a row. No program in it. -/
namespace Go.Proofs.YtkjecjehphgpjaaGreat.W
open Go.Sort
set_option linter.unusedVariables false
set_option linter.unusedSectionVars false
variable {α : Type} [Inhabited α]
/-- Two blocks that lie side by side, exchanged; two blocks of n, exchanged. -/
def rotF (f : Nat → α) (a m b t : Nat) : α := if a ≤ t ∧ t < a + (b - m) then f (t - a + m) else if a + (b - m) ≤ t ∧ t < b then f (t - (b - m)) else f t
def swpF (f : Nat → α) (x y n t : Nat) : α := if x ≤ t ∧ t < x + n then f (t - x + y) else if y ≤ t ∧ t < y + n then f (t - y + x) else f t
def IsF (d : Array α) (f : Nat → α) : Prop := ∀ t, d[t]! = f t
theorem swp_none (f : Nat → α) (x y t : Nat) : swpF f x y 0 t = f t := by
  unfold swpF
  rw [if_neg (by omega), if_neg (by omega)]
theorem swp_next {f : Nat → α} {x y n : Nat} {d : Array α} (hd : IsF d (swpF f x y n)) (h : x + n < y) (hy : y + n < d.size) : IsF (swp d (x + n) (y + n)) (swpF f x y (n + 1)) := by
  intro t
  rw [swp_get d (show x + n < d.size by omega) hy]
  by_cases h1 : t = y + n
  · rw [if_pos h1, hd]
    unfold swpF
    rw [if_neg (by omega), if_neg (by omega), if_neg (by omega), if_pos (by omega)]
    congr 1
    omega
  · rw [if_neg h1]
    by_cases h2 : t = x + n
    · rw [if_pos h2, hd]
      unfold swpF
      rw [if_neg (by omega), if_neg (by omega), if_pos (by omega)]
      congr 1
      omega
    · rw [if_neg h2, hd]
      unfold swpF
      by_cases h3 : x ≤ t ∧ t < x + n
      · rw [if_pos h3, if_pos (by omega)]
      · rw [if_neg h3, if_neg (show ¬ (x ≤ t ∧ t < x + (n + 1)) by omega)]
        by_cases h4 : y ≤ t ∧ t < y + n
        · rw [if_pos h4, if_pos (by omega)]
        · rw [if_neg h4, if_neg (by omega)]
theorem rot_left (f : Nat → α) {m i j : Nat} (hi : i ≤ m) (h : j < i) (t : Nat) : rotF (swpF f (m - i) m j) (m - i + j) m (m + j) t = rotF f (m - i) m (m + j) t := by
  unfold rotF swpF
  repeat' split
  all_goals first | rfl | (congr 1; omega) | (exfalso; omega)
theorem rot_right (f : Nat → α) {m i j : Nat} (hi : i ≤ m) (h : i < j) (t : Nat) : rotF (swpF f (m - i) (m + j - i) i) (m - i) m (m + j - i) t = rotF f (m - i) m (m + j) t := by
  unfold rotF swpF
  repeat' split
  all_goals first | rfl | (congr 1; omega) | (exfalso; omega)
theorem rot_end (f : Nat → α) {m i : Nat} (hi : i ≤ m) (t : Nat) : swpF f (m - i) m i t = rotF f (m - i) m (m + i) t := by
  unfold rotF swpF
  repeat' split
  all_goals first | rfl | (congr 1; omega) | (exfalso; omega)
theorem rot_congr {f g : Nat → α} (h : ∀ t, f t = g t) (a m b t : Nat) : rotF f a m b t = rotF g a m b t := by
  obtain rfl : f = g := funext h
  rfl
/-- One place, moved up; moved down. -/
theorem rot_up {f : Nat → α} {a k : Nat} {d : Array α} (hd : IsF d (rotF f a (a + 1) (k + 1))) (ha : a ≤ k) (hk : k + 1 < d.size) : IsF (swp d k (k + 1)) (rotF f a (a + 1) (k + 2)) := by
  intro t
  rw [swp_get d (show k < d.size by omega) hk]
  by_cases h1 : t = k + 1
  · rw [if_pos h1, hd]
    unfold rotF
    repeat' split
    all_goals first | rfl | (congr 1; omega) | (exfalso; omega)
  · rw [if_neg h1]
    by_cases h2 : t = k
    · rw [if_pos h2, hd]
      unfold rotF
      repeat' split
      all_goals first | rfl | (congr 1; omega) | (exfalso; omega)
    · rw [if_neg h2, hd]
      unfold rotF
      repeat' split
      all_goals first | rfl | (congr 1; omega) | (exfalso; omega)
theorem rot_up0 (f : Nat → α) (a t : Nat) : rotF f a (a + 1) (a + 1) t = f t := by
  unfold rotF
  repeat' split
  all_goals first | rfl | (congr 1; omega) | (exfalso; omega)
theorem rot_down {f : Nat → α} {m k : Nat} {d : Array α} (hd : IsF d (rotF f (k + 1) m (m + 1))) (hk : k < m) (hm : m < d.size) : IsF (swp d (k + 1) k) (rotF f k m (m + 1)) := by
  intro t
  rw [swp_get d (show k + 1 < d.size by omega) (show k < d.size by omega)]
  by_cases h1 : t = k
  · rw [if_pos h1, hd]
    unfold rotF
    repeat' split
    all_goals first | rfl | (congr 1; omega) | (exfalso; omega)
  · rw [if_neg h1]
    by_cases h2 : t = k + 1
    · rw [if_pos h2, hd]
      unfold rotF
      repeat' split
      all_goals first | rfl | (congr 1; omega) | (exfalso; omega)
    · rw [if_neg h2, hd]
      unfold rotF
      repeat' split
      all_goals first | rfl | (congr 1; omega) | (exfalso; omega)
theorem rot_down0 (f : Nat → α) (m t : Nat) : rotF f m m (m + 1) t = f t := by
  unfold rotF
  repeat' split
  all_goals first | rfl | (congr 1; omega) | (exfalso; omega)
/-- Where a search stands: what lies below i holds, what lies from j on doesn't. -/
structure Srch (p : Nat → Bool) (lo hi i j : Nat) : Prop where
  ge : lo ≤ i
  le : i ≤ j
  top : j ≤ hi
  yes : ∀ t, lo ≤ t → t < i → p t = true
  no : ∀ t, j ≤ t → t < hi → p t = false
def Falls (p : Nat → Bool) (lo hi : Nat) : Prop := ∀ s t, lo ≤ s → s ≤ t → t < hi → p t = true → p s = true
theorem srch_start (p : Nat → Bool) {lo hi : Nat} (h : lo ≤ hi) : Srch p lo hi lo hi := ⟨Nat.le_refl _, h, Nat.le_refl _, fun t h1 h2 => by omega, fun t h1 h2 => by omega⟩
theorem srch_up {p : Nat → Bool} {lo hi i j h : Nat} (hf : Falls p lo hi) (s : Srch p lo hi i j) (h1 : i ≤ h) (h2 : h < j) (hp : p h = true) : Srch p lo hi (h + 1) j :=
  ⟨by have := s.ge; omega, by omega, s.top, fun t a b => hf t h a (by omega) (by have := s.top; omega) hp, s.no⟩
theorem srch_down {p : Nat → Bool} {lo hi i j h : Nat} (hf : Falls p lo hi) (s : Srch p lo hi i j) (h1 : i ≤ h) (h2 : h < j) (hp : p h = false) : Srch p lo hi i h :=
  ⟨s.ge, h1, by have := s.top; omega, s.yes, fun t a b => by
    cases hq : p t with
    | false => rfl
    | true =>
      have := hf h t (by have := s.ge; omega) a b hq
      rw [hp] at this
      cases this⟩
variable {R : α → α → Bool}
/-- What a comparison says of two places of two parts. -/
def CrossIn (lt R : α → α → Bool) (a m b : Nat) (d : Array α) : Prop := ∀ i j, a ≤ i → i < m → m ≤ j → j < b → lt d[j]! d[i]! = R d[j]! d[i]!
theorem SortedIn.le (hS : SWO R) {a b : Nat} {d : Array α} (h : SortedIn R a b d) (i j : Nat) (h1 : a ≤ i) (h2 : i ≤ j) (h3 : j < b) : R d[j]! d[i]! = false := by
  by_cases e : i = j
  · subst e
    exact hS.irrefl _
  · exact h i j h1 (by omega) h3
theorem sorted_join {a m b : Nat} {d : Array α} (h1 : SortedIn R a m d) (h2 : SortedIn R m b d) (h : ∀ p q, a ≤ p → p < m → m ≤ q → q < b → R d[q]! d[p]! = false) : SortedIn R a b d := by
  intro i j hi hij hj
  by_cases e : j < m
  · exact h1 i j hi hij e
  · by_cases g : i < m
    · exact h i j hi g (by omega) hj
    · exact h2 i j (by omega) hij hj
/-- One element ahead of others that are in order. -/
theorem up_falls (hS : SWO R) {a b : Nat} {d : Array α} (h2 : SortedIn R (a + 1) b d) : Falls (fun t => R d[t]! d[a]!) (a + 1) b := by
  intro s t hs hst ht hp
  cases e : R d[s]! d[a]! with
  | true => exact e
  | false =>
    have := hS.ntrans _ _ _ (SortedIn.le hS h2 s t hs hst ht) e
    simp only at hp
    rw [hp] at this
    cases this
theorem up_sorted (hS : SWO R) {a b i : Nat} {d d' : Array α} (h2 : SortedIn R (a + 1) b d) (s : Srch (fun t => R d[t]! d[a]!) (a + 1) b i i) (hd : IsF d' (rotF (fun t => d[t]!) a (a + 1) i)) : SortedIn R a b d' := by
  have l0 := s.ge
  have l1 := s.top
  intro p q hp hpq hq
  rw [hd, hd]
  by_cases c1 : q + 1 < i
  · have e1 : rotF (fun t => d[t]!) a (a + 1) i q = d[q + 1]! := by
      unfold rotF
      rw [if_pos (by omega)]
      show d[_]! = _
      congr 1
      omega
    have e2 : rotF (fun t => d[t]!) a (a + 1) i p = d[p + 1]! := by
      unfold rotF
      rw [if_pos (by omega)]
      show d[_]! = _
      congr 1
      omega
    rw [e1, e2]
    exact h2 _ _ (by omega) (by omega) (by omega)
  · by_cases c2 : q + 1 = i
    · have e1 : rotF (fun t => d[t]!) a (a + 1) i q = d[a]! := by
        unfold rotF
        rw [if_neg (by omega), if_pos (by omega)]
        show d[_]! = _
        congr 1
        omega
      have e2 : rotF (fun t => d[t]!) a (a + 1) i p = d[p + 1]! := by
        unfold rotF
        rw [if_pos (by omega)]
        show d[_]! = _
        congr 1
        omega
      rw [e1, e2]
      exact hS.asymmA (s.yes (p + 1) (by omega) (by omega))
    · have e1 : rotF (fun t => d[t]!) a (a + 1) i q = d[q]! := by
        unfold rotF
        rw [if_neg (by omega), if_neg (by omega)]
      rw [e1]
      by_cases c3 : p + 1 < i
      · have e2 : rotF (fun t => d[t]!) a (a + 1) i p = d[p + 1]! := by
          unfold rotF
          rw [if_pos (by omega)]
          show d[_]! = _
          congr 1
          omega
        rw [e2]
        exact h2 _ _ (by omega) (by omega) (by omega)
      · by_cases c4 : p + 1 = i
        · have e2 : rotF (fun t => d[t]!) a (a + 1) i p = d[a]! := by
            unfold rotF
            rw [if_neg (by omega), if_pos (by omega)]
            show d[_]! = _
            congr 1
            omega
          rw [e2]
          exact s.no q (by omega) (by omega)
        · have e2 : rotF (fun t => d[t]!) a (a + 1) i p = d[p]! := by
            unfold rotF
            rw [if_neg (by omega), if_neg (by omega)]
          rw [e2]
          exact h2 _ _ (by omega) (by omega) (by omega)
/-- One element behind others that are in order. -/
theorem down_falls (hS : SWO R) {a m : Nat} {d : Array α} (h1 : SortedIn R a m d) : Falls (fun t => !R d[m]! d[t]!) a m := by
  intro s t hs hst ht hp
  simp only [Bool.not_eq_true'] at hp ⊢
  exact hS.ntrans _ _ _ hp (SortedIn.le hS h1 s t hs hst ht)
theorem down_sorted (hS : SWO R) {a m i : Nat} {d d' : Array α} (h1 : SortedIn R a m d) (s : Srch (fun t => !R d[m]! d[t]!) a m i i) (hd : IsF d' (rotF (fun t => d[t]!) i m (m + 1))) : SortedIn R a (m + 1) d' := by
  have l0 := s.ge
  have l1 := s.top
  have eA : ∀ t, t < i → rotF (fun t => d[t]!) i m (m + 1) t = d[t]! := fun t ht => by
    unfold rotF
    rw [if_neg (by omega), if_neg (by omega)]
  have eB : rotF (fun t => d[t]!) i m (m + 1) i = d[m]! := by
    unfold rotF
    rw [if_pos (by omega)]
    show d[_]! = _
    congr 1
    omega
  have eC : ∀ t, i < t → t ≤ m → rotF (fun t => d[t]!) i m (m + 1) t = d[t - 1]! := fun t ht hm => by
    unfold rotF
    rw [if_neg (by omega), if_pos (by omega)]
    show d[_]! = _
    congr 1
    omega
  intro p q hp hpq hq
  rw [hd, hd]
  by_cases c1 : q < i
  · rw [eA q c1, eA p (by omega)]
    exact h1 _ _ hp hpq (by omega)
  · by_cases c2 : q = i
    · subst c2
      rw [eB, eA p hpq]
      have := s.yes p hp hpq
      simpa using this
    · rw [eC q (by omega) (by omega)]
      by_cases c3 : p < i
      · rw [eA p c3]
        exact h1 _ _ hp (by omega) (by omega)
      · by_cases c4 : p = i
        · subst c4
          rw [eB]
          have := s.no (q - 1) (by omega) (by omega)
          simp only [Bool.not_eq_false'] at this
          exact hS.asymmA this
        · rw [eC p (by omega) (by omega)]
          exact h1 _ _ (by omega) (by omega) (by omega)
/-- The search by symmetric comparisons. -/
structure Sym (a m b mid lo hi : Nat) : Prop where
  am : a < m
  mb : m < b
  half : mid = (a + b) / 2
  low : lo = if m > mid then mid + m - b else a
  high : hi = if m > mid then mid else m
theorem sym_falls (hS : SWO R) {a m b mid lo hi : Nat} {d : Array α} (g : Sym a m b mid lo hi) (h1 : SortedIn R a m d) (h2 : SortedIn R m b d) : Falls (fun c => !R d[mid + m - 1 - c]! d[c]!) lo hi := by
  have l1 := g.am
  have l2 := g.mb
  have l3 := g.half
  have l4 := g.low
  have l5 := g.high
  intro s t hs hst ht hp
  simp only [Bool.not_eq_true'] at hp ⊢
  have hb : a ≤ s ∧ t < m ∧ m ≤ mid + m - 1 - t ∧ mid + m - 1 - s < b := by
    split at l4 <;> split at l5 <;> omega
  exact hS.ntrans _ _ _ (SortedIn.le hS h2 (mid + m - 1 - t) (mid + m - 1 - s) hb.2.2.1 (by omega) hb.2.2.2) (hS.ntrans _ _ _ hp (SortedIn.le hS h1 s t hb.1 hst hb.2.1))
theorem sym_where {a m b mid lo hi c : Nat} (g : Sym a m b mid lo hi) (h1 : lo ≤ c) (h2 : c < hi) : a ≤ c ∧ c < m ∧ m ≤ mid + m - 1 - c ∧ mid + m - 1 - c < b := by
  have l1 := g.am
  have l2 := g.mb
  have l3 := g.half
  have l4 := g.low
  have l5 := g.high
  split at l4 <;> split at l5 <;> omega
theorem sym_lohi {a m b mid lo hi : Nat} (g : Sym a m b mid lo hi) : lo ≤ hi ∧ a ≤ lo ∧ hi ≤ m ∧ hi ≤ mid ∧ m ≤ mid + m - hi ∧ mid + m - lo ≤ b ∧ a ≤ mid ∧ mid < b := by
  have l1 := g.am
  have l2 := g.mb
  have l3 := g.half
  have l4 := g.low
  have l5 := g.high
  split at l4 <;> split at l5 <;> omega
/-- What a merge's halves are, behind the exchange. -/
theorem sym_parts (hS : SWO R) {a m b mid lo hi s : Nat} {d d' : Array α} (g : Sym a m b mid lo hi) (h1 : SortedIn R a m d) (h2 : SortedIn R m b d) (sr : Srch (fun c => !R d[mid + m - 1 - c]! d[c]!) lo hi s s)
    (hd : IsF d' (rotF (fun t => d[t]!) s m (mid + m - s))) :
    SortedIn R a s d' ∧ SortedIn R s mid d' ∧ SortedIn R mid (mid + m - s) d' ∧ SortedIn R (mid + m - s) b d' ∧
    (∀ p q, a ≤ p → p < mid → mid ≤ q → q < b → R d'[q]! d'[p]! = false) ∧
    (∀ t, a ≤ t → t < s → d'[t]! = d[t]!) ∧ (∀ t, s ≤ t → t < mid → d'[t]! = d[t - s + m]!) ∧ (∀ t, mid ≤ t → t < mid + m - s → d'[t]! = d[t - mid + s]!) ∧ (∀ t, mid + m - s ≤ t → d'[t]! = d[t]!) := by
  obtain ⟨k1, k2, k3, k4, k5, k6, k7, k8⟩ := sym_lohi g
  have s1 := sr.ge
  have s2 := sr.top
  have eA : ∀ t, t < s → d'[t]! = d[t]! := fun t ht => by
    rw [hd]
    unfold rotF
    rw [if_neg (by omega), if_neg (by omega)]
  have eB : ∀ t, s ≤ t → t < mid → d'[t]! = d[t - s + m]! := fun t h1 h2 => by
    rw [hd]
    unfold rotF
    rw [if_pos (by omega)]
  have eC : ∀ t, mid ≤ t → t < mid + m - s → d'[t]! = d[t - mid + s]! := fun t h1 h2 => by
    rw [hd]
    unfold rotF
    rw [if_neg (by omega), if_pos (by omega)]
    show d[_]! = _
    congr 1
    omega
  have eD : ∀ t, mid + m - s ≤ t → d'[t]! = d[t]! := fun t h1 => by
    rw [hd]
    unfold rotF
    rw [if_neg (by omega), if_neg (by omega)]
  refine ⟨?_, ?_, ?_, ?_, ?_, fun t _ h => eA t h, eB, eC, eD⟩
  · intro p q hp hpq hq
    rw [eA p (by omega), eA q hq]
    exact h1 p q hp hpq (by omega)
  · intro p q hp hpq hq
    rw [eB p hp (by omega), eB q (by omega) hq]
    exact h2 _ _ (by omega) (by omega) (by omega)
  · intro p q hp hpq hq
    rw [eC p hp (by omega), eC q (by omega) hq]
    exact h1 _ _ (by omega) (by omega) (by omega)
  · intro p q hp hpq hq
    rw [eD p hp, eD q (by omega)]
    exact h2 _ _ (by omega) hpq hq
  · -- what is below is not above
    intro p q hp hpm hq hqb
    by_cases c1 : p < s
    · rw [eA p c1]
      by_cases c2 : q < mid + m - s
      · rw [eC q hq c2]
        exact h1 _ _ hp (by omega) (by omega)
      · rw [eD q (by omega)]
        -- the left one that was kept, the right one that was kept
        by_cases c3 : s = lo
        · have : lo = a ∨ mid + m - s = b := by
            have l4 := g.low
            split at l4
            · right; omega
            · left; omega
          omega
        · have hy := sr.yes (s - 1) (by omega) (by omega)
          simp only [Bool.not_eq_true'] at hy
          rw [show mid + m - 1 - (s - 1) = mid + m - s by omega] at hy
          exact hS.ntrans _ _ _ (SortedIn.le hS h2 (mid + m - s) q (by omega) (by omega) hqb) (hS.ntrans _ _ _ hy (SortedIn.le hS h1 p (s - 1) hp (by omega) (by omega)))
    · rw [eB p (by omega) hpm]
      by_cases c2 : q < mid + m - s
      · rw [eC q hq c2]
        by_cases c3 : s = hi
        · have : hi = m ∨ hi = mid := by
            have l5 := g.high
            split at l5
            · right; omega
            · left; omega
          omega
        · have hn := sr.no s (Nat.le_refl _) (by omega)
          simp only [Bool.not_eq_false'] at hn
          refine hS.ntrans _ _ _ (SortedIn.le hS h1 s (q - mid + s) (by omega) (by omega) (by omega)) (hS.ntrans _ _ _ (hS.asymmA hn) (SortedIn.le hS h2 (p - s + m) (mid + m - 1 - s) (by omega) (by omega) (by omega)))
      · rw [eD q (by omega)]
        exact h2 _ _ (by omega) (by omega) (by omega)
theorem rot_nop_left (f : Nat → α) {m e : Nat} (h : m ≤ e) (t : Nat) : rotF f m m e t = f t := by
  unfold rotF
  repeat' split
  all_goals first | rfl | (congr 1; omega) | (exfalso; omega)
theorem rot_nop_right (f : Nat → α) {s m : Nat} (h : s ≤ m) (t : Nat) : rotF f s m m t = f t := by
  unfold rotF
  repeat' split
  all_goals first | rfl | (congr 1; omega) | (exfalso; omega)
/-- Behind both halves. -/
theorem sym_done (hS : SWO R) {a mid b : Nat} {d1 d2 d3 : Array α} (hb : b ≤ d1.size) (am : a ≤ mid) (mb : mid ≤ b) (p1 : PermIn a mid d1 d2) (o1 : SortedIn R a mid d2) (p2 : PermIn mid b d2 d3) (o2 : SortedIn R mid b d3)
    (hx : ∀ p q, a ≤ p → p < mid → mid ≤ q → q < b → R d1[q]! d1[p]! = false) : PermIn a b d1 d3 ∧ SortedIn R a b d3 := by
  refine ⟨permIn_trans _ _ _ _ _ (permIn_mono d1 d2 a mid a b (Nat.le_refl _) mb hb p1) (permIn_mono d2 d3 mid b a b am (Nat.le_refl _) (by rw [p1.1]; exact hb) p2), ?_⟩
  refine sorted_join (m := mid) ?_ o2 ?_
  · intro i j hi hij hj
    rw [p2.2.1 i (Or.inl (by omega)), p2.2.1 j (Or.inl hj)]
    exact o1 i j hi hij hj
  · intro p q hp hpm hq hqb
    rw [p2.2.1 p (Or.inl hpm)]
    have k1 : ∀ q, mid ≤ q → q < b → R d2[q]! d2[p]! = false := fun q hq hqb => by
      rw [p1.2.1 q (Or.inr hq)]
      exact permIn_all d1 d2 a mid (fun x => R d1[q]! x = false) (by omega) p1 (fun i h1 h2 => hx i q h1 h2 hq hqb) p hp hpm
    exact permIn_all d2 d3 mid b (fun x => R x d2[p]! = false) (by rw [p1.1]; exact hb) p2 (fun i h1 h2 => k1 i h1 h2) q hq hqb
end Go.Proofs.YtkjecjehphgpjaaGreat.W

/- Go's merging in place (slices.SortStableFunc of more than one block), walked at []int: blocks exchanged, and turned. -/
namespace Go.Proofs.YtkjecjehphgpjaaGreat.W
open Go.RowKit Go.Sort
set_option linter.unusedVariables false
set_option linter.unusedSimpArgs false
/-- A place as a value. -/
def plZ {K : Nat} (k : Fin (K + 1)) : Value := .int .i64 (k.val : Int)
theorem plZ_one {K : Nat} : Go.Proofs.OneCell (plZ (K := K)) := fun _ => rfl
/-- A world of the sort's: what the row holds. -/
def RW {K : Nat} (w0 : World) (blk : Nat) (d : Array (Fin (K + 1))) (W : World) : Prop := Go.Proofs.SW plZ w0 blk 0 d W
structure RowZ {K : Nat} (w0 : World) (blk : Nat) (d0 : Array (Fin (K + 1))) : Prop where
  holds : Holds plZ w0 blk 0 d0
  lt : blk < w0.heap.size
section
variable {K : Nat} {w0 W : World} {blk : Nat} {d0 d : Array (Fin (K + 1))}
theorem RowZ.one (R : RowZ w0 blk d0) : Go.Proofs.Row1 plZ w0 blk 0 d0 := ⟨plZ_one, R.holds, R.lt⟩
theorem rw_cell (R : RowZ w0 blk d0) (h : RW w0 blk d W) (hs : d.size = d0.size) (i : Nat) (hi : i < d.size) : W.cell? ⟨blk, i, none⟩ = some (.int .i64 ((d[i]!).val : Int)) := by
  have := Go.Proofs.SW.c1 h R.one hs i hi
  rw [Nat.zero_add] at this
  exact this
theorem rw_frozen (R : RowZ w0 blk d0) (h : RW w0 blk d W) (hs : d.size = d0.size) (i : Nat) (hi : i < d.size) : W.frozen? ⟨blk, i, none⟩ = false := by
  have := Go.Proofs.SW.f1 h R.one hs i hi
  rw [Nat.zero_add] at this
  exact this
theorem rw_second (R : RowZ w0 blk d0) (h : RW w0 blk d W) (hs : d.size = d0.size) (i j : Nat) (hi : i < d.size) (hj : j < d.size) (v : Value) : ∃ u, (W.setCell ⟨blk, i, none⟩ v).cell? ⟨blk, j, none⟩ = some u := by
  have := Go.Proofs.SW.c2 h R.one hs i j hi hj v
  rw [Nat.zero_add, Nat.zero_add] at this
  exact this
theorem rw_swapped (R : RowZ w0 blk d0) (h : RW w0 blk d W) (i j : Nat) (hi : i < d.size) (hj : j < d.size) :
    RW w0 blk (swp d i j) ((W.setCell ⟨blk, i, none⟩ (.int .i64 ((d[j]!).val : Int))).setCell ⟨blk, j, none⟩ (.int .i64 ((d[i]!).val : Int))).drew := by
  have := Go.Proofs.SW.swapped h R.one i j hi hj
  rw [Nat.zero_add, Nat.zero_add] at this
  exact this
theorem rw_drew (h : RW w0 blk d W) (q : Nat) : RW w0 blk d (W.drewN q) := Go.Proofs.SW.drewN h q
end
set_option maxHeartbeats 8000000 in
set_option maxRecDepth 1000000 in
theorem srng_any {K : Nat} {w0 : World} {blk : Nat} {d0 : Array (Fin (K + 1))} (R : RowZ w0 blk d0) (cap x y n : Nat) (fv : Value) (d : Array (Fin (K + 1))) (hs : d.size = d0.size) (hxy : x + n ≤ y) (hy : y + n ≤ d.size) (hsz : d0.size < 4611686018427387904) (w : World) (S : RW w0 blk d w) :
    Calls Tryz.prog 99 #[.slice (some ⟨blk, 0, none⟩) d0.size cap, .int .i64 x, .int .i64 y, .int .i64 n, fv] w fun e w' =>
      e = .returned (.tuple #[]) ∧ ∃ d' : Array (Fin (K + 1)), RW w0 blk d' w' ∧ d'.size = d0.size ∧ PermIn x (y + n) d d' ∧ IsF d' (swpF (fun t => d[t]!) x y n) := by
  have mixed : Tryz.prog.follows .mixedOrders = true := by kernel_rfl
  have S0 : Hid (RW w0 blk d w) := Lib.hid S
  have P0 : Hid (PermIn x (y + n) d d ∧ IsF d (swpF (fun t => d[t]!) x y 0)) := Lib.hid ⟨permIn_refl _ _ _, fun t => (swp_none _ _ _ _).symm⟩
  clear S
  go_enter Tryz.func99, Tryz.ntmps99
  go_wp2
  go_loopg [10] n (fun g vi wr => ∃ (i : Nat) (dk : Array (Fin (K + 1))), vi = .int .i64 i ∧ i ≤ n ∧ n - i ≤ g ∧ dk.size = d.size ∧ Hid (RW w0 blk dk wr) ∧ Hid (PermIn x (y + n) d dk ∧ IsF dk (swpF (fun t => d[t]!) x y i)))
  case atStart => exact ⟨0, d, rfl, by omega, by omega, rfl, S0, P0⟩
  case round =>
    clear S0 P0
    obtain ⟨i, dk, rfl, hin, hg, hk, S1, P1⟩ := hrel
    by_cases hlt : i < n
    · have hltz : (i : Int) < (n : Int) := by omega
      obtain ⟨p, hp⟩ : ∃ p, p = x + i := ⟨_, rfl⟩
      obtain ⟨q, hq⟩ : ∃ q, q = y + i := ⟨_, rfl⟩
      have ex : IntKind.i64.wrap ((x : Int) + (i : Int)) = (p : Int) := by rw [IntKind.wrap_i64]; omega
      have ey : IntKind.i64.wrap ((y : Int) + (i : Int)) = (q : Int) := by rw [IntKind.wrap_i64]; omega
      have p0 : (0 : Int) ≤ (p : Int) := by omega
      have q0 : (0 : Int) ≤ (q : Int) := by omega
      have pn : (p : Int) < (d0.size : Int) := by omega
      have qn : (q : Int) < (d0.size : Int) := by omega
      obtain ⟨a, ha⟩ : ∃ a : Int, a = ((dk[p]!).val : Int) := ⟨_, rfl⟩
      obtain ⟨b, hb⟩ : ∃ b : Int, b = ((dk[q]!).val : Int) := ⟨_, rfl⟩
      have cp := rw_cell R S1.out (by omega) p (by omega)
      have cq := rw_cell R S1.out (by omega) q (by omega)
      have fp := rw_frozen R S1.out (by omega) p (by omega)
      have fq := rw_frozen R S1.out (by omega) q (by omega)
      have S2 := rw_swapped R S1.out p q (by omega) (by omega)
      rw [← ha] at cp S2
      rw [← hb] at cq S2
      obtain ⟨u, cu⟩ := rw_second R S1.out (by omega) p q (by omega) (by omega) (.int .i64 b)
      have S3 := Lib.hid S2
      have P2 : Hid (PermIn x (y + n) d (swp dk p q) ∧ IsF (swp dk p q) (swpF (fun t => d[t]!) x y (i + 1)) ∧ (swp dk p q).size = d.size) := Lib.hid ⟨permIn_trans _ _ _ _ _ P1.out.1 (swp_permIn dk x (y + n) p q (by omega) (by omega) (by omega) (by omega) (by omega)), by
        rw [hp, hq]
        exact swp_next P1.out.2 (by omega) (by omega), by rw [size_swp]; exact hk⟩
      clear S2 ha hb hp hq
      go_wp2_with fail
      go_big_region_o
      clear cp cq fp fq cu
      generalize ((wr.setCell ⟨blk, p, none⟩ (.int .i64 b)).setCell ⟨blk, q, none⟩ (.int .i64 a)).drew = w2 at S3 ⊢
      clear ex ey p0 q0 pn qn
      go_wp2
      go_roundg (n - (i + 1))
      case measure => omega
      case rel => exact ⟨i + 1, swp dk p q, by first | rfl | go_num, by omega, by omega, P2.out.2.2, S3, Lib.hid ⟨P2.out.1, P2.out.2.1⟩⟩
    · have hltz : ¬ (i : Int) < (n : Int) := by omega
      obtain rfl : i = n := by omega
      go_wp2
      go_end0
      exact ⟨rfl, dk, S1.out, hk.trans hs, P1.out.1, P1.out.2⟩
set_option maxHeartbeats 8000000 in
set_option maxRecDepth 1000000 in
theorem rota_any {K : Nat} {w0 : World} {blk : Nat} {d0 : Array (Fin (K + 1))} (R : RowZ w0 blk d0) (cap a m b : Nat) (fv : Value) (d : Array (Fin (K + 1))) (hs : d.size = d0.size) (ham : a < m) (hmb : m < b) (hb : b ≤ d.size) (hsz : d0.size < 4611686018427387904) (w : World) (S : RW w0 blk d w) :
    Calls Tryz.prog 93 #[.slice (some ⟨blk, 0, none⟩) d0.size cap, .int .i64 a, .int .i64 m, .int .i64 b, fv] w fun e w' =>
      e = .returned (.tuple #[]) ∧ ∃ d' : Array (Fin (K + 1)), RW w0 blk d' w' ∧ d'.size = d0.size ∧ PermIn a b d d' ∧ IsF d' (rotF (fun t => d[t]!) a m b) := by
  have S0 : Hid (RW w0 blk d w) := Lib.hid S
  have P0 : Hid (PermIn a b d d ∧ ∀ t, rotF (fun t => d[t]!) (m - (m - a)) m (m + (b - m)) t = rotF (fun t => d[t]!) a m b t) := Lib.hid ⟨permIn_refl _ _ _, fun t => by rw [show m - (m - a) = a by omega, show m + (b - m) = b by omega]⟩
  have e1 : IntKind.i64.wrap ((m : Int) - (a : Int)) = ((m - a : Nat) : Int) := by rw [IntKind.wrap_i64]; omega
  have e2 : IntKind.i64.wrap ((b : Int) - (m : Int)) = ((b - m : Nat) : Int) := by rw [IntKind.wrap_i64]; omega
  clear S
  generalize hma : m - a = i0 at *
  generalize hbm : b - m = j0 at *
  go_enter Tryz.func93, Tryz.ntmps93
  go_wp2
  go_loopg [10, 11] (b - a) (fun g vi vj wr => ∃ (i j : Nat) (dk : Array (Fin (K + 1))), vi = .int .i64 i ∧ vj = .int .i64 j ∧ 0 < i ∧ 0 < j ∧ i ≤ m - a ∧ j ≤ b - m ∧ i + j ≤ g ∧ dk.size = d0.size ∧ Hid (RW w0 blk dk wr) ∧ Hid (PermIn a b d dk ∧ ∀ t, rotF (fun t => dk[t]!) (m - i) m (m + j) t = rotF (fun t => d[t]!) a m b t))
  case atStart => exact ⟨i0, j0, d, rfl, rfl, by omega, by omega, by omega, by omega, by omega, hs, S0, P0⟩
  case round =>
    clear S0 P0 e1 e2
    obtain ⟨i, j, dk, rfl, rfl, hi, hj, him, hjb, hg, hk, S1, P1⟩ := hrel
    obtain ⟨p, hp⟩ : ∃ p, p = m - i := ⟨_, rfl⟩
    have ex : IntKind.i64.wrap ((m : Int) - (i : Int)) = (p : Int) := by rw [IntKind.wrap_i64]; omega
    by_cases hij : i = j
    · subst hij
      have c := srng_any R cap p m i fv dk hk (by omega) (by omega) hsz wr S1.out
      have HP : Hid (p = m - i) := hp
      clear hp
      go_wp2_with fail
      (with_reducible refine c.mono ?_)
      rintro e w2 ⟨rfl, d', S2, hk2, hP, hF⟩
      have H : Hid _ := Lib.hid (And.intro S2 (And.intro hP hF))
      clear c S2 hP hF
      go_wp2_with fail
      go_end0
      obtain ⟨S2, hP, hF⟩ := H.out
      obtain rfl := HP.out
      refine ⟨rfl, d', S2, hk2, permIn_trans _ _ _ _ _ P1.out.1 (permIn_mono dk d' (m - i) (m + i) a b (by omega) (by omega) (by omega) hP), fun t => ?_⟩
      rw [hF t, rot_end _ (by omega)]
      exact P1.out.2 t
    · have hijz : ¬ (i : Int) = (j : Int) := by omega
      by_cases hlt : j < i
      · have hltz : (j : Int) < (i : Int) := by omega
        have c := srng_any R cap p m j fv dk hk (by omega) (by omega) hsz wr S1.out
        have ei : IntKind.i64.wrap ((i : Int) - (j : Int)) = ((i - j : Nat) : Int) := by rw [IntKind.wrap_i64]; omega
        generalize hi2 : i - j = i2 at *
        have HP : Hid (p = m - i ∧ i - j = i2) := ⟨hp, hi2⟩
        clear hp hi2
        go_wp2_with fail
        (with_reducible refine c.mono ?_)
        rintro e w2 ⟨rfl, d', S2, hk2, hP, hF⟩
        have S3 : Hid _ := Lib.hid S2
        obtain ⟨hp, hi2⟩ := HP.out
        have H : Hid (PermIn a b d d' ∧ ∀ t, rotF (fun t => d'[t]!) (m - i2) m (m + j) t = rotF (fun t => d[t]!) a m b t) := by
          subst hp
          refine ⟨permIn_trans _ _ _ _ _ P1.out.1 (permIn_mono dk d' (m - i) (m + j) a b (by omega) (by omega) (by omega) hP), fun t => ?_⟩
          rw [rot_congr hF, show m - i2 = m - i + j by omega, rot_left _ (by omega) hlt]
          exact P1.out.2 t
        clear c S2 hP hF P1 S1 hp hi2
        go_wp2_with fail
        go_roundg (i2 + j)
        case measure =>
          obtain ⟨hp, hi2⟩ := HP.out
          omega
        case rel =>
          obtain ⟨hp, hi2⟩ := HP.out
          exact ⟨i2, j, d', rfl, rfl, by omega, by omega, by omega, by omega, by omega, hk2, S3, H⟩
      · have hltz : ¬ (j : Int) < (i : Int) := by omega
        obtain ⟨q, hq⟩ : ∃ q, q = m + j - i := ⟨_, rfl⟩
        obtain ⟨s, hsm⟩ : ∃ s, s = m + j := ⟨_, rfl⟩
        have es : IntKind.i64.wrap ((m : Int) + (j : Int)) = (s : Int) := by rw [IntKind.wrap_i64]; omega
        have eq : IntKind.i64.wrap ((s : Int) - (i : Int)) = (q : Int) := by rw [IntKind.wrap_i64]; omega
        have c := srng_any R cap p q i fv dk hk (by omega) (by omega) hsz wr S1.out
        have ej : IntKind.i64.wrap ((j : Int) - (i : Int)) = ((j - i : Nat) : Int) := by rw [IntKind.wrap_i64]; omega
        generalize hj2 : j - i = j2 at *
        have HP : Hid (p = m - i ∧ j - i = j2 ∧ q = m + j - i) := ⟨hp, hj2, hq⟩
        clear hp hj2 hq hsm
        go_wp2_with fail
        (with_reducible refine c.mono ?_)
        rintro e w2 ⟨rfl, d', S2, hk2, hP, hF⟩
        have S3 : Hid _ := Lib.hid S2
        obtain ⟨hp, hj2, hq⟩ := HP.out
        have H : Hid (PermIn a b d d' ∧ ∀ t, rotF (fun t => d'[t]!) (m - i) m (m + j2) t = rotF (fun t => d[t]!) a m b t) := by
          subst hp hq
          refine ⟨permIn_trans _ _ _ _ _ P1.out.1 (permIn_mono dk d' (m - i) (m + j - i + i) a b (by omega) (by omega) (by omega) hP), fun t => ?_⟩
          rw [rot_congr hF, show m + j2 = m + j - i by omega, rot_right _ (by omega) (by omega)]
          exact P1.out.2 t
        clear c S2 hP hF P1 S1 hp hj2 hq
        go_wp2_with fail
        go_roundg (i + j2)
        case measure =>
          obtain ⟨hp, hj2, hq⟩ := HP.out
          omega
        case rel =>
          obtain ⟨hp, hj2, hq⟩ := HP.out
          exact ⟨i, j2, d', rfl, rfl, by omega, by omega, by omega, by omega, by omega, hk2, S3, H⟩
end Go.Proofs.YtkjecjehphgpjaaGreat.W

/- Go's merging in place, walked at []int: one element ahead of others, or behind them. -/
namespace Go.Proofs.YtkjecjehphgpjaaGreat.W
open Go.RowKit Go.Sort
set_option linter.unusedVariables false
set_option linter.unusedSimpArgs false
/-- What the sort is told of what compares. -/
structure Cmp {K : Nat} (w0 : World) (blk : Nat) (d0 : Array (Fin (K + 1))) (g : Nat) (cb : Array Value) (cf : Fin (K + 1) → Fin (K + 1) → Int) : Prop where
  enters : ∀ args w, (callFunc g args).run Tryz.prog w = .ok (.enter g args) w
  reads : Go.Proofs.CmpReads Tryz.prog g cb plZ cf blk 0 d0.size w0
theorem rw_cmp {K : Nat} {w0 W : World} {blk : Nat} {d0 d : Array (Fin (K + 1))} {g : Nat} {cb : Array Value} {cf : Fin (K + 1) → Fin (K + 1) → Int} (C : Cmp w0 blk d0 g cb cf) (h : RW w0 blk d W) (hs : d.size = d0.size) (x y : Fin (K + 1)) (n : Nat) :
    Calls Tryz.prog g (#[.int .i64 (x.val : Int), .int .i64 (y.val : Int)] ++ cb) (W.drewN n) fun e w' => e = .returned (.int .i64 (cf x y)) ∧ ∃ q, w' = (W.drewN n).drewN q := by
  obtain ⟨m, os, hw⟩ := rw_drew h n
  rw [hw]
  exact C.reads m os d hs x y
set_option maxHeartbeats 8000000 in
set_option maxRecDepth 1000000 in
theorem symA_any {K : Nat} {w0 : World} {blk : Nat} {d0 : Array (Fin (K + 1))} {g : Nat} {cb : Array Value} {cf : Fin (K + 1) → Fin (K + 1) → Int} (R : RowZ w0 blk d0) (C : Cmp w0 blk d0 g cb cf) (O : Fin (K + 1) → Fin (K + 1) → Bool) (hS : SWO O) (cap a m b : Nat) (d : Array (Fin (K + 1))) (hs : d.size = d0.size) (hsz : d0.size < 4611686018427387904)
    (ham : m = a + 1) (hmb : m < b) (hb : b ≤ d0.size) (h2 : SortedIn O m b d) (hx : CrossIn (Go.Proofs.ltOf cf) O a m b d) (w : World) (S : RW w0 blk d w) :
    Calls Tryz.prog 59 #[.slice (some ⟨blk, 0, none⟩) d0.size cap, .int .i64 a, .int .i64 m, .int .i64 b, .func (.func g) #[] cb] w fun e w' =>
      e = .returned (.tuple #[]) ∧ ∃ d' : Array (Fin (K + 1)), RW w0 blk d' w' ∧ d'.size = d0.size ∧ PermIn a b d d' ∧ SortedIn O a b d' := by
  have mixed : Tryz.prog.follows .mixedOrders = true := by kernel_rfl
  have eg := C.enters
  have em : IntKind.i64.wrap ((m : Int) - (a : Int)) = 1 := by rw [IntKind.wrap_i64]; omega
  have S0 : Hid (RW w0 blk d w) := Lib.hid S
  have HM : Hid (m = a + 1) := ham
  have H2 : Hid (SortedIn O (a + 1) b d) := by rw [← ham]; exact h2
  have HX : Hid (CrossIn (Go.Proofs.ltOf cf) O a m b d) := hx
  have P0 : Hid (Srch (fun t => O d[t]! d[a]!) (a + 1) b m b) := by subst ham; exact srch_start _ (by omega)
  clear S ham h2 hx
  go_enter Tryz.func59, Tryz.ntmps59
  go_wp2_with fail
  go_loopg [10, 11] (b - m) (fun g1 vi vj wr => ∃ (i j : Nat), vi = .int .i64 i ∧ vj = .int .i64 j ∧ i ≤ j ∧ j ≤ b ∧ m ≤ i ∧ j - i ≤ g1 ∧ Hid (RW w0 blk d wr) ∧ Hid (Srch (fun t => O d[t]! d[a]!) (a + 1) b i j))
  case atStart => exact ⟨m, b, rfl, rfl, by omega, by omega, by omega, by omega, S0, P0⟩
  case round =>
    clear S0 P0
    obtain ⟨i, j, rfl, rfl, hij, hjb, hmi, hg, S1, P1⟩ := hrel
    by_cases hlt : i < j
    · have hltz : (i : Int) < (j : Int) := by omega
      obtain ⟨s, hsd⟩ : ∃ s, s = i + j := ⟨_, rfl⟩
      obtain ⟨h, hh⟩ : ∃ h, h = s / 2 := ⟨_, rfl⟩
      have e1 : IntKind.i64.wrap ((i : Int) + (j : Int)) = (s : Int) := by rw [IntKind.wrap_i64]; omega
      have e2 : IntKind.u64.wrap (s : Int) = (s : Int) := by rw [IntKind.wrap_u64]; omega
      have e3 : (s : Int) / 2 = (h : Int) := by omega
      have e4 : IntKind.i64.wrap (h : Int) = (h : Int) := by rw [IntKind.wrap_i64]; omega
      have hn : (h : Int) < (d0.size : Int) := by omega
      have an : (a : Int) < (d0.size : Int) := by have := HM.out; omega
      have ch := rw_cell R S1.out hs h (by omega)
      have ca := rw_cell R S1.out hs a (by omega)
      have hc := rw_cmp C S1.out hs d[h]! d[a]!
      have e5 : IntKind.i64.wrap ((h : Int) + 1) = ((h + 1 : Nat) : Int) := by rw [IntKind.wrap_i64]; omega
      have HH : Hid (i ≤ h ∧ h < j) := ⟨by omega, by omega⟩
      obtain ⟨xv, hxv⟩ : ∃ q : Int, q = ((d[h]!).val : Int) := ⟨_, rfl⟩
      obtain ⟨yv, hyv⟩ : ∃ q : Int, q = ((d[a]!).val : Int) := ⟨_, rfl⟩
      rw [← hxv] at ch hc
      rw [← hyv] at ca hc
      obtain ⟨z, hz⟩ : ∃ z : Int, z = cf d[h]! d[a]! := ⟨_, rfl⟩
      rw [← hz] at hc
      generalize hh1 : h + 1 = h1 at e5
      have HZ : Hid (z = cf d[h]! d[a]! ∧ h + 1 = h1) := ⟨hz, hh1⟩
      clear hxv hyv hsd hh hz hh1
      by_cases hlv : z < 0
      · go_wp2_with fail
        go_quiet_o (first | (go_at_fn g; refine Calls.quiet_of (hc _)))
        go_wp2_with fail
        go_roundg (j - h1)
        case measure =>
          obtain ⟨hz, hh1⟩ := HZ.out
          have := HH.out
          omega
        case rel =>
          obtain ⟨hz, hh1⟩ := HZ.out
          have h4 := HH.out
          subst hh1
          have hm := HM.out
          refine ⟨h + 1, j, rfl, rfl, by omega, by omega, by omega, by omega, rw_drew S1.out nq, srch_up (up_falls hS H2.out) P1.out h4.1 h4.2 ?_⟩
          show O d[h]! d[a]! = true
          rw [← HX.out a h (by omega) (by omega) (by omega) (by omega)]
          unfold Go.Proofs.ltOf
          rw [← hz]
          exact decide_eq_true hlv
      · go_wp2_with fail
        go_quiet_o (first | (go_at_fn g; refine Calls.quiet_of (hc _)))
        go_wp2_with fail
        go_roundg (h - i)
        case measure =>
          have := HH.out
          omega
        case rel =>
          obtain ⟨hz, hh1⟩ := HZ.out
          have h4 := HH.out
          have hm := HM.out
          refine ⟨i, h, rfl, rfl, by omega, by omega, by omega, by omega, rw_drew S1.out nq, srch_down (up_falls hS H2.out) P1.out h4.1 h4.2 ?_⟩
          show O d[h]! d[a]! = false
          rw [← HX.out a h (by omega) (by omega) (by omega) (by omega)]
          unfold Go.Proofs.ltOf
          rw [← hz]
          exact decide_eq_false (by omega)
    · obtain rfl : i = j := by omega
      have hltz : ¬ (i : Int) < (i : Int) := by omega
      have hm1 := HM.out
      obtain ⟨e, he⟩ : ∃ e, i = e + 1 := ⟨i - 1, by omega⟩
      have ee : IntKind.i64.wrap ((i : Int) - 1) = (e : Int) := by rw [IntKind.wrap_i64]; omega
      have HE : Hid (i = e + 1) := he
      clear he hm1
      have P2 : Hid (PermIn a b d d ∧ IsF d (rotF (fun t => d[t]!) a (a + 1) (a + 1))) := ⟨permIn_refl _ _ _, fun t => (rot_up0 _ _ _).symm⟩
      go_wp2_with fail
      go_loopg [13] (b - a) (fun g2 vk w3 => ∃ (k : Nat) (dk : Array (Fin (K + 1))), vk = .int .i64 k ∧ a ≤ k ∧ k ≤ e ∧ e - k ≤ g2 ∧ dk.size = d0.size ∧ Hid (RW w0 blk dk w3) ∧ Hid (PermIn a b d dk ∧ IsF dk (rotF (fun t => d[t]!) a (a + 1) (k + 1))))
      case atStart =>
        have h1 := HE.out
        have h3 := HM.out
        exact ⟨a, d, rfl, by omega, by omega, by omega, hs, S1, P2⟩
      case round =>
        clear S1 P2
        obtain ⟨k, dk, rfl, hak, hke, hg2, hk, S2, P2⟩ := hrel
        by_cases hlt2 : k < e
        · have hltz2 : (k : Int) < (e : Int) := by omega
          have hE := HE.out
          obtain ⟨q, hq⟩ : ∃ q, q = k + 1 := ⟨_, rfl⟩
          have eq : IntKind.i64.wrap ((k : Int) + 1) = (q : Int) := by rw [IntKind.wrap_i64]; omega
          have kn : (k : Int) < (d0.size : Int) := by omega
          have qn : (q : Int) < (d0.size : Int) := by omega
          obtain ⟨x, hxv⟩ : ∃ a : Int, a = ((dk[k]!).val : Int) := ⟨_, rfl⟩
          obtain ⟨y, hyv⟩ : ∃ b : Int, b = ((dk[q]!).val : Int) := ⟨_, rfl⟩
          have cp := rw_cell R S2.out hk k (by omega)
          have cq := rw_cell R S2.out hk q (by omega)
          have fp := rw_frozen R S2.out hk k (by omega)
          have fq := rw_frozen R S2.out hk q (by omega)
          have S4 := rw_swapped R S2.out k q (by omega) (by omega)
          rw [← hxv] at cp S4
          rw [← hyv] at cq S4
          obtain ⟨u, cu⟩ := rw_second R S2.out hk k q (by omega) (by omega) (.int .i64 y)
          have S3 := Lib.hid S4
          have P3 : Hid (PermIn a b d (swp dk k q) ∧ IsF (swp dk k q) (rotF (fun t => d[t]!) a (a + 1) (q + 1)) ∧ (swp dk k q).size = d0.size) := Lib.hid ⟨permIn_trans _ _ _ _ _ P2.out.1 (swp_permIn dk a b k q (by omega) (by omega) (by omega) (by omega) (by omega)), by
            rw [hq]
            exact rot_up P2.out.2 hak (by omega), by rw [size_swp]; exact hk⟩
          have HQ : Hid (q = k + 1) := hq
          clear S4 hxv hyv hq hE S2 P2
          go_wp2_with fail
          go_big_region_o
          clear cp cq fp fq cu
          generalize ((wr.setCell ⟨blk, k, none⟩ (.int .i64 y)).setCell ⟨blk, q, none⟩ (.int .i64 x)).drew = w4 at S3 ⊢
          go_wp2_with fail
          go_roundg (e - q)
          case measure =>
            have := HQ.out
            omega
          case rel =>
            have := HQ.out
            exact ⟨q, swp dk k q, rfl, by omega, by omega, by omega, P3.out.2.2, S3, P3.out.1, P3.out.2.1⟩
        · obtain rfl : k = e := by omega
          have hltz2 : ¬ (k : Int) < (k : Int) := by omega
          go_wp2_with fail
          (try simp only [Exit.inBlock, Exit.then])
          refine bodyPost_ret (results_none rfl _ _ _) rfl ?_
          have hE := HE.out
          refine ⟨rfl, dk, S2.out, hk, P2.out.1, ?_⟩
          subst hE
          exact up_sorted hS H2.out P1.out P2.out.2
set_option maxHeartbeats 8000000 in
set_option maxRecDepth 1000000 in
theorem symB_any {K : Nat} {w0 : World} {blk : Nat} {d0 : Array (Fin (K + 1))} {g : Nat} {cb : Array Value} {cf : Fin (K + 1) → Fin (K + 1) → Int} (R : RowZ w0 blk d0) (C : Cmp w0 blk d0 g cb cf) (O : Fin (K + 1) → Fin (K + 1) → Bool) (hS : SWO O) (cap a m b : Nat) (d : Array (Fin (K + 1))) (hs : d.size = d0.size) (hsz : d0.size < 4611686018427387904)
    (ham : a + 1 < m) (hmb : b = m + 1) (hb : b ≤ d0.size) (h1 : SortedIn O a m d) (hx : CrossIn (Go.Proofs.ltOf cf) O a m b d) (w : World) (S : RW w0 blk d w) :
    Calls Tryz.prog 59 #[.slice (some ⟨blk, 0, none⟩) d0.size cap, .int .i64 a, .int .i64 m, .int .i64 b, .func (.func g) #[] cb] w fun e w' =>
      e = .returned (.tuple #[]) ∧ ∃ d' : Array (Fin (K + 1)), RW w0 blk d' w' ∧ d'.size = d0.size ∧ PermIn a b d d' ∧ SortedIn O a b d' := by
  have mixed : Tryz.prog.follows .mixedOrders = true := by kernel_rfl
  have eg := C.enters
  obtain ⟨l, hl⟩ : ∃ l, l = m - a := ⟨_, rfl⟩
  have em : IntKind.i64.wrap ((m : Int) - (a : Int)) = (l : Int) := by rw [IntKind.wrap_i64]; omega
  have el : ¬ (l : Int) = 1 := by omega
  have el2 : ((l : Int) == 1) = false := beq_eq_false_iff_ne.2 el
  have em2 : IntKind.i64.wrap ((b : Int) - (m : Int)) = 1 := by rw [IntKind.wrap_i64]; omega
  have S0 : Hid (RW w0 blk d w) := Lib.hid S
  have HM : Hid (b = m + 1 ∧ a + 1 < m) := ⟨hmb, ham⟩
  have H1 : Hid (SortedIn O a m d) := h1
  have HX : Hid (CrossIn (Go.Proofs.ltOf cf) O a m b d) := hx
  have P0 : Hid (Srch (fun t => !O d[m]! d[t]!) a m a m) := srch_start _ (by omega)
  clear S ham hmb h1 hx hl
  go_enter Tryz.func59, Tryz.ntmps59
  go_wp2_with fail
  go_loopg [14, 15] (m - a) (fun g1 vi vj wr => ∃ (i j : Nat), vi = .int .i64 i ∧ vj = .int .i64 j ∧ i ≤ j ∧ j ≤ m ∧ a ≤ i ∧ j - i ≤ g1 ∧ Hid (RW w0 blk d wr) ∧ Hid (Srch (fun t => !O d[m]! d[t]!) a m i j))
  case atStart =>
    have := HM.out
    exact ⟨a, m, rfl, rfl, by omega, by omega, by omega, by omega, S0, P0⟩
  case round =>
    clear S0 P0
    obtain ⟨i, j, rfl, rfl, hij, hjb, hmi, hg, S1, P1⟩ := hrel
    by_cases hlt : i < j
    · have hltz : (i : Int) < (j : Int) := by omega
      have hM := HM.out
      obtain ⟨s, hsd⟩ : ∃ s, s = i + j := ⟨_, rfl⟩
      obtain ⟨h, hh⟩ : ∃ h, h = s / 2 := ⟨_, rfl⟩
      have e1 : IntKind.i64.wrap ((i : Int) + (j : Int)) = (s : Int) := by rw [IntKind.wrap_i64]; omega
      have e2 : IntKind.u64.wrap (s : Int) = (s : Int) := by rw [IntKind.wrap_u64]; omega
      have e3 : (s : Int) / 2 = (h : Int) := by omega
      have e4 : IntKind.i64.wrap (h : Int) = (h : Int) := by rw [IntKind.wrap_i64]; omega
      have hn : (h : Int) < (d0.size : Int) := by omega
      have an : (m : Int) < (d0.size : Int) := by omega
      have ch := rw_cell R S1.out hs h (by omega)
      have ca := rw_cell R S1.out hs m (by omega)
      have hc := rw_cmp C S1.out hs d[m]! d[h]!
      have e5 : IntKind.i64.wrap ((h : Int) + 1) = ((h + 1 : Nat) : Int) := by rw [IntKind.wrap_i64]; omega
      have HH : Hid (i ≤ h ∧ h < j) := ⟨by omega, by omega⟩
      obtain ⟨xv, hxv⟩ : ∃ q : Int, q = ((d[h]!).val : Int) := ⟨_, rfl⟩
      obtain ⟨yv, hyv⟩ : ∃ q : Int, q = ((d[m]!).val : Int) := ⟨_, rfl⟩
      rw [← hxv] at ch hc
      rw [← hyv] at ca hc
      obtain ⟨z, hz⟩ : ∃ z : Int, z = cf d[m]! d[h]! := ⟨_, rfl⟩
      rw [← hz] at hc
      generalize hh1 : h + 1 = h1 at e5
      have HZ : Hid (z = cf d[m]! d[h]! ∧ h + 1 = h1) := ⟨hz, hh1⟩
      clear hxv hyv hsd hh hz hh1 hM
      by_cases hlv : z < 0
      · have hd : decide (z < 0) = true := decide_eq_true hlv
        go_wp2_with fail
        go_quiet_o (first | (go_at_fn g; refine Calls.quiet_of (hc _)))
        go_wp2_with fail
        go_roundg (h - i)
        case measure =>
          have := HH.out
          omega
        case rel =>
          obtain ⟨hz, hh1⟩ := HZ.out
          have h4 := HH.out
          have hm := HM.out
          refine ⟨i, h, rfl, rfl, by omega, by omega, by omega, by omega, rw_drew S1.out nq, srch_down (down_falls hS H1.out) P1.out h4.1 h4.2 ?_⟩
          show (!O d[m]! d[h]!) = false
          rw [← HX.out h m (by omega) (by omega) (by omega) (by omega)]
          unfold Go.Proofs.ltOf
          rw [← hz, decide_eq_true hlv]
          rfl
      · have hd : decide (z < 0) = false := decide_eq_false hlv
        go_wp2_with fail
        go_quiet_o (first | (go_at_fn g; refine Calls.quiet_of (hc _)))
        go_wp2_with fail
        go_roundg (j - h1)
        case measure =>
          obtain ⟨hz, hh1⟩ := HZ.out
          have := HH.out
          omega
        case rel =>
          obtain ⟨hz, hh1⟩ := HZ.out
          have h4 := HH.out
          subst hh1
          have hm := HM.out
          refine ⟨h + 1, j, rfl, rfl, by omega, by omega, by omega, by omega, rw_drew S1.out nq, srch_up (down_falls hS H1.out) P1.out h4.1 h4.2 ?_⟩
          show (!O d[m]! d[h]!) = true
          rw [← HX.out h m (by omega) (by omega) (by omega) (by omega)]
          unfold Go.Proofs.ltOf
          rw [← hz, decide_eq_false (show ¬ z < 0 by omega)]
          rfl
    · obtain rfl : i = j := by omega
      have hltz : ¬ (i : Int) < (i : Int) := by omega
      have P2 : Hid (PermIn a b d d ∧ IsF d (rotF (fun t => d[t]!) m m (m + 1))) := ⟨permIn_refl _ _ _, fun t => (rot_down0 _ _ _).symm⟩
      go_wp2_with fail
      go_loopg [17] (b - a) (fun g2 vk w3 => ∃ (k : Nat) (dk : Array (Fin (K + 1))), vk = .int .i64 k ∧ i ≤ k ∧ k ≤ m ∧ k - i ≤ g2 ∧ dk.size = d0.size ∧ Hid (RW w0 blk dk w3) ∧ Hid (PermIn a b d dk ∧ IsF dk (rotF (fun t => d[t]!) k m (m + 1))))
      case atStart =>
        have h3 := HM.out
        exact ⟨m, d, rfl, by omega, by omega, by omega, hs, S1, P2⟩
      case round =>
        clear S1 P2
        obtain ⟨k, dk, rfl, hak, hke, hg2, hk, S2, P2⟩ := hrel
        by_cases hlt2 : i < k
        · have hltz2 : (i : Int) < (k : Int) := by omega
          have hE := HM.out
          obtain ⟨q, hq⟩ : ∃ q, k = q + 1 := ⟨k - 1, by omega⟩
          have eq : IntKind.i64.wrap ((k : Int) - 1) = (q : Int) := by rw [IntKind.wrap_i64]; omega
          have kn : (k : Int) < (d0.size : Int) := by omega
          have qn : (q : Int) < (d0.size : Int) := by omega
          obtain ⟨x, hxv⟩ : ∃ a : Int, a = ((dk[k]!).val : Int) := ⟨_, rfl⟩
          obtain ⟨y, hyv⟩ : ∃ b : Int, b = ((dk[q]!).val : Int) := ⟨_, rfl⟩
          have cp := rw_cell R S2.out hk k (by omega)
          have cq := rw_cell R S2.out hk q (by omega)
          have fp := rw_frozen R S2.out hk k (by omega)
          have fq := rw_frozen R S2.out hk q (by omega)
          have S4 := rw_swapped R S2.out k q (by omega) (by omega)
          rw [← hxv] at cp S4
          rw [← hyv] at cq S4
          obtain ⟨u, cu⟩ := rw_second R S2.out hk k q (by omega) (by omega) (.int .i64 y)
          have S3 := Lib.hid S4
          have P3 : Hid (PermIn a b d (swp dk k q) ∧ IsF (swp dk k q) (rotF (fun t => d[t]!) q m (m + 1)) ∧ (swp dk k q).size = d0.size) := Lib.hid ⟨permIn_trans _ _ _ _ _ P2.out.1 (swp_permIn dk a b k q (by omega) (by omega) (by omega) (by omega) (by omega)), by
            have := P2.out.2
            rw [hq] at this ⊢
            exact rot_down this (by omega) (by omega), by rw [size_swp]; exact hk⟩
          have HQ : Hid (k = q + 1) := hq
          clear S4 hxv hyv hq hE S2 P2
          go_wp2_with fail
          go_big_region_o
          clear cp cq fp fq cu
          generalize ((wr.setCell ⟨blk, k, none⟩ (.int .i64 y)).setCell ⟨blk, q, none⟩ (.int .i64 x)).drew = w4 at S3 ⊢
          go_wp2_with fail
          go_roundg (q - i)
          case measure =>
            have := HQ.out
            omega
          case rel =>
            have := HQ.out
            exact ⟨q, swp dk k q, rfl, by omega, by omega, by omega, P3.out.2.2, S3, P3.out.1, P3.out.2.1⟩
        · obtain rfl : k = i := by omega
          have hltz2 : ¬ (k : Int) < (k : Int) := by omega
          go_wp2_with fail
          (try simp only [Exit.inBlock, Exit.then])
          refine bodyPost_ret (results_none rfl _ _ _) rfl ?_
          have hE := HM.out
          refine ⟨rfl, dk, S2.out, hk, P2.out.1, ?_⟩
          rw [hE.1]
          exact down_sorted hS H1.out P1.out P2.out.2
end Go.Proofs.YtkjecjehphgpjaaGreat.W

/- Go's merging in place, walked at []int: two parts of any lengths. -/
namespace Go.Proofs.YtkjecjehphgpjaaGreat.W
open Go.RowKit Go.Sort
set_option linter.unusedVariables false
set_option linter.unusedSimpArgs false
set_option maxHeartbeats 16000000 in
set_option maxRecDepth 1000000 in
theorem symC_any {K : Nat} {w0 : World} {blk : Nat} {d0 : Array (Fin (K + 1))} {g : Nat} {cb : Array Value} {cf : Fin (K + 1) → Fin (K + 1) → Int} (R : RowZ w0 blk d0) (C : Cmp w0 blk d0 g cb cf) (O : Fin (K + 1) → Fin (K + 1) → Bool) (hS : SWO O) (cap : Nat) (hsz : d0.size < 4611686018427387904) (n : Nat)
    (ih : ∀ (a m b : Nat) (d : Array (Fin (K + 1))) (w : World), b - a ≤ n → a < m → m < b → b ≤ d0.size → d.size = d0.size → SortedIn O a m d → SortedIn O m b d → CrossIn (Go.Proofs.ltOf cf) O a m b d → RW w0 blk d w →
      Calls Tryz.prog 59 #[.slice (some ⟨blk, 0, none⟩) d0.size cap, .int .i64 a, .int .i64 m, .int .i64 b, .func (.func g) #[] cb] w fun e w' =>
        e = .returned (.tuple #[]) ∧ ∃ d' : Array (Fin (K + 1)), RW w0 blk d' w' ∧ d'.size = d0.size ∧ PermIn a b d d' ∧ SortedIn O a b d')
    (a m b : Nat) (d : Array (Fin (K + 1))) (w : World) (hn : b - a ≤ n + 1) (ham : a + 1 < m) (hmb : m + 1 < b) (hb : b ≤ d0.size) (hs : d.size = d0.size) (h1 : SortedIn O a m d) (h2 : SortedIn O m b d) (hx : CrossIn (Go.Proofs.ltOf cf) O a m b d) (S : RW w0 blk d w) :
    Calls Tryz.prog 59 #[.slice (some ⟨blk, 0, none⟩) d0.size cap, .int .i64 a, .int .i64 m, .int .i64 b, .func (.func g) #[] cb] w fun e w' =>
      e = .returned (.tuple #[]) ∧ ∃ d' : Array (Fin (K + 1)), RW w0 blk d' w' ∧ d'.size = d0.size ∧ PermIn a b d d' ∧ SortedIn O a b d' := by
  have mixed : Tryz.prog.follows .mixedOrders = true := by kernel_rfl
  have eg := C.enters
  obtain ⟨l, hl⟩ : ∃ l, l = m - a := ⟨_, rfl⟩
  obtain ⟨r, hr⟩ : ∃ r, r = b - m := ⟨_, rfl⟩
  have em : IntKind.i64.wrap ((m : Int) - (a : Int)) = (l : Int) := by rw [IntKind.wrap_i64]; omega
  have el : ¬ (l : Int) = 1 := by omega
  have el2 : ((l : Int) == 1) = false := beq_eq_false_iff_ne.2 el
  have em2 : IntKind.i64.wrap ((b : Int) - (m : Int)) = (r : Int) := by rw [IntKind.wrap_i64]; omega
  have er : ¬ (r : Int) = 1 := by omega
  have er2 : ((r : Int) == 1) = false := beq_eq_false_iff_ne.2 er
  obtain ⟨s0, hs0⟩ : ∃ s, s = a + b := ⟨_, rfl⟩
  obtain ⟨mid, hmid⟩ : ∃ mid, mid = s0 / 2 := ⟨_, rfl⟩
  obtain ⟨N, hN⟩ : ∃ N, N = mid + m := ⟨_, rfl⟩
  obtain ⟨p, hp⟩ : ∃ p, N = p + 1 := ⟨mid + m - 1, by omega⟩
  have f1 : IntKind.i64.wrap ((a : Int) + (b : Int)) = (s0 : Int) := by rw [IntKind.wrap_i64]; omega
  have f2 : IntKind.u64.wrap (s0 : Int) = (s0 : Int) := by rw [IntKind.wrap_u64]; omega
  have f3 : (s0 : Int) / 2 = (mid : Int) := by omega
  have f4 : IntKind.i64.wrap (mid : Int) = (mid : Int) := by rw [IntKind.wrap_i64]; omega
  have f5 : IntKind.i64.wrap ((mid : Int) + (m : Int)) = (N : Int) := by rw [IntKind.wrap_i64]; omega
  have f6 : IntKind.i64.wrap ((N : Int) - 1) = (p : Int) := by rw [IntKind.wrap_i64]; omega
  obtain ⟨lo, hi, G⟩ : ∃ lo hi, Sym a m b mid lo hi := ⟨_, _, by omega, by omega, by rw [hmid, hs0], rfl, rfl⟩
  have HG : Hid (Sym a m b mid lo hi ∧ N = mid + m ∧ N = p + 1 ∧ a + 1 < m ∧ m + 1 < b ∧ mid = (a + b) / 2) := ⟨G, hN, hp, ham, hmb, by rw [hmid, hs0]⟩
  have S0 : Hid (RW w0 blk d w) := Lib.hid S
  have HX : Hid (CrossIn (Go.Proofs.ltOf cf) O a m b d ∧ SortedIn O a m d ∧ SortedIn O m b d) := ⟨hx, h1, h2⟩
  have IH := Lib.hid ih
  have HN : Hid (b - a ≤ n + 1) := hn
  clear S ham hmb hx h1 h2 hl hr hs0 hmid hN hp G ih hn
  go_enter Tryz.func59, Tryz.ntmps59
  go_upto_if 140 with fail
  go_cut [20, 21] from 138 to 146 (fun x y wx => x = .int .i64 (lo : Int) ∧ y = .int .i64 (hi : Int) ∧ wx = w)
  case first =>
    obtain ⟨G, hN, hp, ham, hmb, hmid⟩ := HG.out
    have g1 := G.low
    have g2 := G.high
    by_cases hm : m > mid
    · rw [if_pos hm] at g1 g2
      have hz : (mid : Int) < (m : Int) := by omega
      have k1 : IntKind.i64.wrap ((N : Int) - (b : Int)) = (lo : Int) := by rw [IntKind.wrap_i64]; omega
      have k2 : (hi : Int) = (mid : Int) := by omega
      clear G hN hp ham hmb hmid g1 g2
      go_wp2_with fail
      go_meet
      case rel => exact ⟨rfl, by rw [k2], rfl⟩
    · rw [if_neg hm] at g1 g2
      have hz : ¬ (mid : Int) < (m : Int) := by omega
      have k1 : (lo : Int) = (a : Int) := by omega
      have k2 : (hi : Int) = (m : Int) := by omega
      clear G hN hp ham hmb hmid g1 g2
      go_wp2_with fail
      go_meet
      case rel => exact ⟨by rw [k1], by rw [k2], rfl⟩
  case rest =>
    obtain ⟨rfl, rfl, rfl⟩ := hcut
    have P0 : Hid (Srch (fun c => !O d[mid + m - 1 - c]! d[c]!) lo hi lo hi) := srch_start _ (sym_lohi HG.out.1).1
    have HLH := Lib.hid (sym_lohi HG.out.1).1
    go_wp2_with fail
    go_loopg [20, 21] (hi - lo) (fun g1 vi vj wr => ∃ (i j : Nat), vi = .int .i64 i ∧ vj = .int .i64 j ∧ i ≤ j ∧ j ≤ hi ∧ lo ≤ i ∧ j - i ≤ g1 ∧ Hid (RW w0 blk d wr) ∧ Hid (Srch (fun c => !O d[mid + m - 1 - c]! d[c]!) lo hi i j))
    case atStart => exact ⟨lo, hi, rfl, rfl, HLH.out, by omega, by omega, by omega, S0, P0⟩
    case round =>
      clear S0 P0
      obtain ⟨i, j, rfl, rfl, hij, hjb, hmi, hg, S1, P1⟩ := hrel
      by_cases hlt : i < j
      · have hltz : (i : Int) < (j : Int) := by omega
        obtain ⟨G, hN, hp, ham, hmb, hmid⟩ := HG.out
        obtain ⟨s, hsd⟩ : ∃ s, s = i + j := ⟨_, rfl⟩
        obtain ⟨h, hh⟩ : ∃ h, h = s / 2 := ⟨_, rfl⟩
        obtain ⟨k1, k2, k3, k4⟩ := sym_where G (c := h) (by omega) (by omega)
        obtain ⟨q, hq⟩ : ∃ q, q = mid + m - 1 - h := ⟨_, rfl⟩
        have e1 : IntKind.i64.wrap ((i : Int) + (j : Int)) = (s : Int) := by rw [IntKind.wrap_i64]; omega
        have e2 : IntKind.u64.wrap (s : Int) = (s : Int) := by rw [IntKind.wrap_u64]; omega
        have e3 : (s : Int) / 2 = (h : Int) := by omega
        have e4 : IntKind.i64.wrap (h : Int) = (h : Int) := by rw [IntKind.wrap_i64]; omega
        have e6 : IntKind.i64.wrap ((p : Int) - (h : Int)) = (q : Int) := by rw [IntKind.wrap_i64]; omega
        have hn : (h : Int) < (d0.size : Int) := by omega
        have qn : (q : Int) < (d0.size : Int) := by omega
        have ch := rw_cell R S1.out hs h (by omega)
        have ca := rw_cell R S1.out hs q (by omega)
        have hc := rw_cmp C S1.out hs d[q]! d[h]!
        have e5 : IntKind.i64.wrap ((h : Int) + 1) = ((h + 1 : Nat) : Int) := by rw [IntKind.wrap_i64]; omega
        have HH : Hid (i ≤ h ∧ h < j ∧ a ≤ h ∧ h < m ∧ m ≤ q ∧ q < b ∧ q = mid + m - 1 - h) := ⟨by omega, by omega, k1, k2, by omega, by omega, hq⟩
        obtain ⟨xv, hxv⟩ : ∃ q : Int, q = ((d[h]!).val : Int) := ⟨_, rfl⟩
        obtain ⟨yv, hyv⟩ : ∃ z : Int, z = ((d[q]!).val : Int) := ⟨_, rfl⟩
        rw [← hxv] at ch hc
        rw [← hyv] at ca hc
        obtain ⟨z, hz⟩ : ∃ z : Int, z = cf d[q]! d[h]! := ⟨_, rfl⟩
        rw [← hz] at hc
        generalize hh1 : h + 1 = h1 at e5
        have HZ : Hid (z = cf d[q]! d[h]! ∧ h + 1 = h1) := ⟨hz, hh1⟩
        clear hxv hyv hsd hh hz hh1 hq k1 k2 k3 k4 G hN hp ham hmb hmid
        by_cases hlv : z < 0
        · have hd : decide (z < 0) = true := decide_eq_true hlv
          go_wp2_with fail
          go_quiet_o (first | (go_at_fn g; refine Calls.quiet_of (hc _)))
          go_wp2_with fail
          go_roundg (h - i)
          case measure =>
            have := HH.out
            omega
          case rel =>
            obtain ⟨hz, hh1⟩ := HZ.out
            obtain ⟨q1, q2, q3, q4, q5, q6, q7⟩ := HH.out
            obtain ⟨hx, hs1, hs2⟩ := HX.out
            refine ⟨i, h, rfl, rfl, by omega, by omega, by omega, by omega, rw_drew S1.out nq, srch_down (sym_falls hS HG.out.1 hs1 hs2) P1.out q1 q2 ?_⟩
            show (!O d[mid + m - 1 - h]! d[h]!) = false
            rw [← q7, ← hx h q q3 q4 q5 q6]
            unfold Go.Proofs.ltOf
            rw [← hz, hd]
            rfl
        · have hd : decide (z < 0) = false := decide_eq_false hlv
          go_wp2_with fail
          go_quiet_o (first | (go_at_fn g; refine Calls.quiet_of (hc _)))
          go_wp2_with fail
          go_roundg (j - h1)
          case measure =>
            obtain ⟨hz, hh1⟩ := HZ.out
            have := HH.out
            omega
          case rel =>
            obtain ⟨hz, hh1⟩ := HZ.out
            obtain ⟨q1, q2, q3, q4, q5, q6, q7⟩ := HH.out
            obtain ⟨hx, hs1, hs2⟩ := HX.out
            subst hh1
            refine ⟨h + 1, j, rfl, rfl, by omega, by omega, by omega, by omega, rw_drew S1.out nq, srch_up (sym_falls hS HG.out.1 hs1 hs2) P1.out q1 q2 ?_⟩
            show (!O d[mid + m - 1 - h]! d[h]!) = true
            rw [← q7, ← hx h q q3 q4 q5 q6]
            unfold Go.Proofs.ltOf
            rw [← hz, hd]
            rfl
      · obtain rfl : i = j := by omega
        have hltz : ¬ (i : Int) < (i : Int) := by omega
        clear hij
        obtain ⟨G, hN, hp, ham, hmb, hmid⟩ := HG.out
        obtain ⟨k1, k2, k3, k4, k5, k6, k7, k8⟩ := sym_lohi G
        obtain ⟨en, hen⟩ : ∃ en, en = mid + m - i := ⟨_, rfl⟩
        have ee : IntKind.i64.wrap ((N : Int) - (i : Int)) = (en : Int) := by rw [IntKind.wrap_i64]; omega
        have HE : Hid (en = mid + m - i ∧ a ≤ i ∧ i ≤ m ∧ i ≤ mid ∧ m ≤ en ∧ mid ≤ en ∧ en ≤ b ∧ a < mid ∧ mid < b ∧ a < m ∧ m < b ∧ mid = (a + b) / 2) := ⟨hen, by omega, by omega, by omega, by omega, by omega, by omega, by omega, by omega, by omega, by omega, hmid⟩
        clear hen k1 k2 k3 k4 k5 k6 k7 k8 G hN hp ham hmb hmid
        go_upto_region 39 with fail
        go_cut [185] from 178 to 185 (fun e wx => e = .bool (decide (i < m ∧ m < en)) ∧ wx = wr)
        case first =>
          by_cases q1 : i < m
          · have z1 : (i : Int) < (m : Int) := by omega
            have z3 : decide ((i : Int) < (m : Int)) = true := decide_eq_true z1
            by_cases q2 : m < en
            · have z2 : (m : Int) < (en : Int) := by omega
              have z4 : decide ((m : Int) < (en : Int)) = true := decide_eq_true z2
              have z5 : decide (i < m ∧ m < en) = true := decide_eq_true ⟨q1, q2⟩
              go_wp2_with fail
              go_meet
              case rel => exact ⟨by rw [z5], rfl⟩
            · have z2 : ¬ (m : Int) < (en : Int) := by omega
              have z4 : decide ((m : Int) < (en : Int)) = false := decide_eq_false z2
              have z5 : decide (i < m ∧ m < en) = false := decide_eq_false fun h => q2 h.2
              go_wp2_with fail
              go_meet
              case rel => exact ⟨by rw [z5], rfl⟩
          · have z1 : ¬ (i : Int) < (m : Int) := by omega
            have z3 : decide ((i : Int) < (m : Int)) = false := decide_eq_false z1
            have z5 : decide (i < m ∧ m < en) = false := decide_eq_false fun h => q1 h.1
            go_wp2_with fail
            go_meet
            case rel => exact ⟨by rw [z5], rfl⟩
        case rest =>
          obtain ⟨rfl, rfl⟩ := hcut
          go_upto_if 185 with fail
          go_cut [] from 185 to 191 (fun wx => ∃ d1 : Array (Fin (K + 1)), Hid (RW w0 blk d1 wx) ∧ d1.size = d0.size ∧ Hid (PermIn a b d d1 ∧ IsF d1 (rotF (fun t => d[t]!) i m en)))
          case first =>
            obtain ⟨hen, k1, k2, k3, k4, k5, k6, k7, k8, k9, k10, k11⟩ := HE.out
            by_cases hq : i < m ∧ m < en
            · rw [decide_eq_true hq]
              have c := rota_any R cap i m en (.func (.func g) #[] cb) d hs hq.1 hq.2 (by omega) hsz wc S1.out
              clear hen k1 k2 k3 k4 k5 k6 k7 k8 k9 k10 k11 hq
              go_wp2_with fail
              (with_reducible refine c.mono ?_)
              rintro e w2 ⟨rfl, d1, S2, hd1, hP, hF⟩
              have S3 : Hid _ := Lib.hid S2
              have H : Hid _ := Lib.hid (And.intro hP hF)
              clear c S2 hP hF
              go_wp2_with fail
              go_meet
              case rel =>
                obtain ⟨hen, k1, k2, k3, k4, k5, k6, k7, k8, k9, k10, k11⟩ := HE.out
                exact ⟨d1, S3, hd1, permIn_mono d d1 i en a b (by omega) (by omega) (by omega) H.out.1, H.out.2⟩
            · rw [decide_eq_false hq]
              have H : Hid (IsF d (rotF (fun t => d[t]!) i m en)) := by
                by_cases h1 : i = m
                · subst h1
                  exact fun t => (rot_nop_left _ (by omega) t).symm
                · obtain rfl : m = en := by omega
                  exact fun t => (rot_nop_right _ (by omega) t).symm
              clear hen k1 k2 k3 k4 k5 k6 k7 k8 k9 k10 k11 hq
              go_wp2_with fail
              go_meet
              case rel => exact ⟨d, S1, hs, permIn_refl _ _ _, H.out⟩
          case rest =>
            obtain ⟨d1, S2, hd1, P2⟩ := hcut
            have hP := sym_parts hS HG.out.1 HX.out.2.1 HX.out.2.2 P1.out (d' := d1) (by have := HE.out.1; rw [← this]; exact P2.out.2)
            rw [← HE.out.1] at hP
            have HP := Lib.hid hP
            have PP := Lib.hid P2.out.1
            clear P1 P2 S1 hP
            go_upto_region 41 with fail
            go_cut [199] from 192 to 199 (fun e wx => e = .bool (decide (a < i ∧ i < mid)) ∧ wx = wc)
            case first =>
              by_cases q1 : a < i
              · have z1 : (a : Int) < (i : Int) := by omega
                have z3 : decide ((a : Int) < (i : Int)) = true := decide_eq_true z1
                by_cases q2 : i < mid
                · have z2 : (i : Int) < (mid : Int) := by omega
                  have z4 : decide ((i : Int) < (mid : Int)) = true := decide_eq_true z2
                  have z5 : decide (a < i ∧ i < mid) = true := decide_eq_true ⟨q1, q2⟩
                  go_wp2_with fail
                  go_meet
                  case rel => exact ⟨by rw [z5], rfl⟩
                · have z2 : ¬ (i : Int) < (mid : Int) := by omega
                  have z4 : decide ((i : Int) < (mid : Int)) = false := decide_eq_false z2
                  have z5 : decide (a < i ∧ i < mid) = false := decide_eq_false fun h => q2 h.2
                  go_wp2_with fail
                  go_meet
                  case rel => exact ⟨by rw [z5], rfl⟩
              · have z1 : ¬ (a : Int) < (i : Int) := by omega
                have z3 : decide ((a : Int) < (i : Int)) = false := decide_eq_false z1
                have z5 : decide (a < i ∧ i < mid) = false := decide_eq_false fun h => q1 h.1
                go_wp2_with fail
                go_meet
                case rel => exact ⟨by rw [z5], rfl⟩
            case rest =>
              obtain ⟨rfl, rfl⟩ := hcut
              go_upto_if 199 with fail
              go_cut [] from 199 to 205 (fun wx => ∃ d2 : Array (Fin (K + 1)), Hid (RW w0 blk d2 wx) ∧ d2.size = d0.size ∧ Hid (PermIn a mid d1 d2 ∧ SortedIn O a mid d2))
              case first =>
                obtain ⟨hen, k1, k2, k3, k4, k5, k6, k7, k8, k9, k10, k11⟩ := HE.out
                obtain ⟨o1, o2, o3, o4, o5, o6, o7, o8, o9⟩ := HP.out
                by_cases hq : a < i ∧ i < mid
                · rw [decide_eq_true hq]
                  have hN := HN.out
                  obtain ⟨hx, hs1, hs2⟩ := HX.out
                  have c := IH.out a i mid d1 wc (by omega) hq.1 hq.2 (by omega) hd1 o1 o2 (fun x y h1 h2 h3 h4 => by
                    rw [o6 x h1 h2, o7 y h3 h4]
                    exact hx x (y - i + m) h1 (by omega) (by omega) (by omega)) S2.out
                  clear hen k1 k2 k3 k4 k5 k6 k7 k8 k9 k10 k11 hq o1 o2 o3 o4 o5 o6 o7 o8 o9 hN hx hs1 hs2
                  go_wp2_with fail
                  (with_reducible refine c.mono ?_)
                  rintro e w2 ⟨rfl, d2, S2, hd2, hP, hF⟩
                  have S3 : Hid _ := Lib.hid S2
                  have H : Hid _ := Lib.hid (And.intro hP hF)
                  clear c S2 hP hF
                  go_wp2_with fail
                  go_meet
                  case rel => exact ⟨d2, S3, hd2, H⟩
                · rw [decide_eq_false hq]
                  have H : Hid (SortedIn O a mid d1) := by
                    by_cases h1 : a = i
                    · rw [h1]
                      exact o2
                    · have h2 : mid = i := by omega
                      rw [h2]
                      exact o1
                  clear hen k1 k2 k3 k4 k5 k6 k7 k8 k9 k10 k11 hq o1 o2 o3 o4 o5 o6 o7 o8 o9
                  go_wp2_with fail
                  go_meet
                  case rel => exact ⟨d1, S2, hd1, permIn_refl _ _ _, H⟩
              case rest =>
                obtain ⟨d2, S3, hd2, P2⟩ := hcut
                clear S2
                go_upto_region 43 with fail
                go_cut [213] from 206 to 213 (fun e wx => e = .bool (decide (mid < en ∧ en < b)) ∧ wx = wc)
                case first =>
                  by_cases q1 : mid < en
                  · have z1 : (mid : Int) < (en : Int) := by omega
                    have z3 : decide ((mid : Int) < (en : Int)) = true := decide_eq_true z1
                    by_cases q2 : en < b
                    · have z2 : (en : Int) < (b : Int) := by omega
                      have z4 : decide ((en : Int) < (b : Int)) = true := decide_eq_true z2
                      have z5 : decide (mid < en ∧ en < b) = true := decide_eq_true ⟨q1, q2⟩
                      go_wp2_with fail
                      go_meet
                      case rel => exact ⟨by rw [z5], rfl⟩
                    · have z2 : ¬ (en : Int) < (b : Int) := by omega
                      have z4 : decide ((en : Int) < (b : Int)) = false := decide_eq_false z2
                      have z5 : decide (mid < en ∧ en < b) = false := decide_eq_false fun h => q2 h.2
                      go_wp2_with fail
                      go_meet
                      case rel => exact ⟨by rw [z5], rfl⟩
                  · have z1 : ¬ (mid : Int) < (en : Int) := by omega
                    have z3 : decide ((mid : Int) < (en : Int)) = false := decide_eq_false z1
                    have z5 : decide (mid < en ∧ en < b) = false := decide_eq_false fun h => q1 h.1
                    go_wp2_with fail
                    go_meet
                    case rel => exact ⟨by rw [z5], rfl⟩
                case rest =>
                  obtain ⟨rfl, rfl⟩ := hcut
                  go_upto_if 213 with fail
                  obtain ⟨hen, k1, k2, k3, k4, k5, k6, k7, k8, k9, k10, k11⟩ := HE.out
                  obtain ⟨o1, o2, o3, o4, o5, o6, o7, o8, o9⟩ := HP.out
                  have o3' : SortedIn O mid en d2 := fun x y h1 h2 h3 => by
                    rw [P2.out.1.2.1 x (Or.inr h1), P2.out.1.2.1 y (Or.inr (by omega))]
                    exact o3 x y h1 h2 h3
                  have o4' : SortedIn O en b d2 := fun x y h1 h2 h3 => by
                    rw [P2.out.1.2.1 x (Or.inr (by omega)), P2.out.1.2.1 y (Or.inr (by omega))]
                    exact o4 x y h1 h2 h3
                  by_cases hq : mid < en ∧ en < b
                  · rw [decide_eq_true hq]
                    have hN := HN.out
                    obtain ⟨hx, hs1, hs2⟩ := HX.out
                    have c := IH.out mid en b d2 wc (by omega) hq.1 hq.2 hb hd2 o3' o4' (fun x y h1 h2 h3 h4 => by
                      rw [P2.out.1.2.1 x (Or.inr h1), P2.out.1.2.1 y (Or.inr (by omega)), o8 x h1 h2, o9 y h3]
                      exact hx (x - mid + i) y (by omega) (by omega) (by omega) h4) S3.out
                    clear hen k1 k2 k3 k4 k5 k6 k7 k8 k9 k10 k11 hq o1 o2 o3 o4 o5 o6 o7 o8 o9 hN hx hs1 hs2 o3' o4'
                    go_wp2_with fail
                    (with_reducible refine c.mono ?_)
                    rintro e w2 ⟨rfl, d3, S4, hd3, hP, hF⟩
                    have H : Hid _ := Lib.hid (And.intro S4 (And.intro hP hF))
                    clear c S4 hP hF
                    go_wp2_with fail
                    go_end0
                    obtain ⟨S4, hP, hF⟩ := H.out
                    obtain ⟨hen, k1, k2, k3, k4, k5, k6, k7, k8, k9, k10, k11⟩ := HE.out
                    have hD := sym_done hS (a := a) (mid := mid) (b := b) (by omega) (by omega) (by omega) P2.out.1 P2.out.2 hP hF HP.out.2.2.2.2.1
                    exact ⟨rfl, d3, S4, hd3, permIn_trans _ _ _ _ _ PP.out hD.1, hD.2⟩
                  · rw [decide_eq_false hq]
                    have H : Hid (SortedIn O mid b d2) := by
                      by_cases h1 : mid = en
                      · rw [h1]
                        exact o4'
                      · have h2 : b = en := by omega
                        rw [h2]
                        exact o3'
                    clear hen k1 k2 k3 k4 k5 k6 k7 k8 k9 k10 k11 hq o1 o2 o3 o4 o5 o6 o7 o8 o9 o3' o4'
                    go_wp2_with fail
                    go_end0
                    obtain ⟨hen, k1, k2, k3, k4, k5, k6, k7, k8, k9, k10, k11⟩ := HE.out
                    have hD := sym_done hS (a := a) (mid := mid) (b := b) (by omega) (by omega) (by omega) P2.out.1 P2.out.2 (permIn_refl d2 mid b) H.out HP.out.2.2.2.2.1
                    exact ⟨rfl, d2, S3.out, hd2, permIn_trans _ _ _ _ _ PP.out hD.1, hD.2⟩
theorem symm_any {K : Nat} {w0 : World} {blk : Nat} {d0 : Array (Fin (K + 1))} {g : Nat} {cb : Array Value} {cf : Fin (K + 1) → Fin (K + 1) → Int} (R : RowZ w0 blk d0) (C : Cmp w0 blk d0 g cb cf) (O : Fin (K + 1) → Fin (K + 1) → Bool) (hS : SWO O) (cap : Nat) (hsz : d0.size < 4611686018427387904) :
    ∀ (n a m b : Nat) (d : Array (Fin (K + 1))) (w : World), b - a ≤ n → a < m → m < b → b ≤ d0.size → d.size = d0.size → SortedIn O a m d → SortedIn O m b d → CrossIn (Go.Proofs.ltOf cf) O a m b d → RW w0 blk d w →
      Calls Tryz.prog 59 #[.slice (some ⟨blk, 0, none⟩) d0.size cap, .int .i64 a, .int .i64 m, .int .i64 b, .func (.func g) #[] cb] w fun e w' =>
        e = .returned (.tuple #[]) ∧ ∃ d' : Array (Fin (K + 1)), RW w0 blk d' w' ∧ d'.size = d0.size ∧ PermIn a b d d' ∧ SortedIn O a b d' := by
  intro n
  induction n with
  | zero => intro a m b d w hn h1 h2; omega
  | succ n ih =>
    intro a m b d w hn ham hmb hb hs h1 h2 hx S
    by_cases c1 : m = a + 1
    · exact symA_any R C O hS cap a m b d hs hsz c1 hmb hb h2 hx w S
    · by_cases c2 : b = m + 1
      · exact symB_any R C O hS cap a m b d hs hsz (by omega) c2 hb h1 hx w S
      · exact symC_any R C O hS cap hsz n ih a m b d w hn (by omega) (by omega) hb hs h1 h2 hx S
end Go.Proofs.YtkjecjehphgpjaaGreat.W

/- slices.SortStableFunc of at most 60 places, as arrays: blocks of twenty, then merged. No program in it. -/
namespace Go.Proofs.YtkjecjehphgpjaaGreat.W
open Go.Sort
set_option linter.unusedVariables false
set_option linter.unusedSectionVars false
section
variable {K : Nat}
/-- By a number, and of the same by the place. -/
def ordZ (m : Fin (K + 1) → Int) (x y : Fin (K + 1)) : Bool := decide (m x < m y ∨ m x = m y ∧ x.val < y.val)
def ltZ (m : Fin (K + 1) → Int) (x y : Fin (K + 1)) : Bool := decide (m x < m y)
theorem ordZ_swo (m : Fin (K + 1) → Int) : SWO (ordZ m) where
  irrefl := fun x => by unfold ordZ; exact decide_eq_false (by omega)
  trans := fun x y z h1 h2 => by
    unfold ordZ at *
    have := of_decide_eq_true h1
    have := of_decide_eq_true h2
    exact decide_eq_true (by omega)
  ntrans := fun x y z h1 h2 => by
    unfold ordZ at *
    have := of_decide_eq_false h1
    have := of_decide_eq_false h2
    exact decide_eq_false (by omega)
theorem ltZ_ord {m : Fin (K + 1) → Int} {x y : Fin (K + 1)} (h : y.val < x.val) : ltZ m x y = ordZ m x y := by
  unfold ltZ ordZ
  exact decide_eq_decide.2 (by omega)
theorem inner_agree (m : Fin (K + 1) → Int) (a : Nat) : ∀ (j : Nat) (d : Array (Fin (K + 1))), j < d.size → (∀ k, a ≤ k → k < j → (d[k]!).val < (d[j]!).val) → insInner (ltZ m) a j d = insInner (ordZ m) a j d
  | 0, d, _, _ => rfl
  | j + 1, d, hj, h => by
    unfold insInner
    by_cases ha : a ≤ j
    · rw [ltZ_ord (h j ha (by omega))]
      rw [inner_agree m a j (swp d (j + 1) j) (by rw [size_swp]; omega) (fun k h1 h2 => by
        rw [swp_get d hj (show j < d.size by omega), swp_get d hj (show j < d.size by omega), if_neg (by omega), if_neg (by omega), if_pos rfl]
        exact h k h1 (by omega))]
    · have : decide (j + 1 > a) = false := decide_eq_false (by omega)
      simp [this]
theorem inner_perm {lt : Fin (K + 1) → Fin (K + 1) → Bool} (a i : Nat) : ∀ (j : Nat) (d : Array (Fin (K + 1))), j ≤ i → i < d.size → PermIn a (i + 1) d (insInner lt a j d)
  | 0, d, _, _ => permIn_refl _ _ _
  | j + 1, d, hj, hi => by
    unfold insInner
    split
    · rename_i hc
      simp only [Bool.and_eq_true, decide_eq_true_eq] at hc
      exact permIn_trans _ _ _ _ _ (swp_permIn d a (i + 1) (j + 1) j (by omega) (by omega) (by omega) (by omega) (by omega)) (inner_perm a i j _ (by omega) (by rw [size_swp]; exact hi))
    · exact permIn_refl _ _ _
theorem outer_agree (m : Fin (K + 1) → Int) (a b : Nat) : ∀ (n i : Nat) (d : Array (Fin (K + 1))), b - i = n → a < i → b ≤ d.size → (∀ p q, i ≤ q → q < b → a ≤ p → p < q → (d[p]!).val < (d[q]!).val) → insOuter (ltZ m) a b i d = insOuter (ordZ m) a b i d
  | 0, i, d, hn, _, _, _ => by
    rw [Go.Proofs.insOuter_stop (ltZ m) a b i d (by omega), Go.Proofs.insOuter_stop (ordZ m) a b i d (by omega)]
  | n + 1, i, d, hn, hai, hb, h => by
    rw [Go.Proofs.insOuter_go (ltZ m) a b i d (by omega), Go.Proofs.insOuter_go (ordZ m) a b i d (by omega), inner_agree m a i d (by omega) (fun k h1 h2 => h k i (Nat.le_refl _) (by omega) h1 h2)]
    have P := inner_perm (lt := ordZ m) a i i d (Nat.le_refl _) (by omega)
    refine outer_agree m a b n (i + 1) _ (by omega) (by omega) (by rw [P.1]; exact hb) ?_
    intro p q hq hqb hp hpq
    rw [P.2.1 q (Or.inr hq)]
    by_cases c : p < i + 1
    · exact permIn_all d _ a (i + 1) (fun x => x.val < (d[q]!).val) (by omega) P (fun t h1 h2 => h t q (by omega) hqb h1 (by omega)) p hp c
    · rw [P.2.1 p (Or.inr (by omega))]
      exact h p q (by omega) hqb hp hpq
theorem ins_agree (m : Fin (K + 1) → Int) {a b : Nat} {d : Array (Fin (K + 1))} (hb : b ≤ d.size) (h : ∀ t, a ≤ t → t < b → (d[t]!).val = t) : insertionSort (ltZ m) d a b = insertionSort (ordZ m) d a b := by
  unfold insertionSort
  refine outer_agree m a b _ (a + 1) d rfl (by omega) hb ?_
  intro p q h1 h2 h3 h4
  rw [h p h3 (by omega), h q (by omega) h2]
  exact h4
/-- A block: in order, of its own places; what is behind, as it was. -/
structure Blk (m : Fin (K + 1) → Int) (a b : Nat) (d : Array (Fin (K + 1))) : Prop where
  sorted : SortedIn (ordZ m) a b d
  own : ∀ t, a ≤ t → t < b → a ≤ (d[t]!).val ∧ (d[t]!).val < b
def Idn (a n : Nat) (d : Array (Fin (K + 1))) : Prop := ∀ t, a ≤ t → t < n → (d[t]!).val = t
theorem ins_block (m : Fin (K + 1) → Int) {a b n : Nat} {d d' : Array (Fin (K + 1))} (hab : a ≤ b) (hbn : b ≤ n) (hn : n ≤ d.size) (hI : Idn a n d) (he : d' = insertionSort (ltZ m) d a b) :
    d'.size = d.size ∧ PermIn a b d d' ∧ Blk m a b d' ∧ Idn b n d' := by
  rw [ins_agree m (by omega) (fun t h1 h2 => hI t h1 (by omega))] at he
  obtain ⟨P, S⟩ := insertionSort_holds (ordZ_swo m) d a b hab (by omega)
  rw [← he] at P S
  refine ⟨P.1, P, ⟨S, ?_⟩, ?_⟩
  · exact permIn_all d d' a b (fun x => a ≤ x.val ∧ x.val < b) (by omega) P (fun t h1 h2 => by rw [hI t h1 (by omega)]; exact ⟨h1, h2⟩)
  · intro t h1 h2
    rw [P.2.1 t (Or.inr h1)]
    exact hI t (by omega) h2
theorem Blk.kept {m : Fin (K + 1) → Int} {a b x y : Nat} {d d' : Array (Fin (K + 1))} (B : Blk m x y d) (P : PermIn a b d d') (h : y ≤ a ∨ b ≤ x) : Blk m x y d' := by
  have e : ∀ t, x ≤ t → t < y → d'[t]! = d[t]! := fun t h1 h2 => P.2.1 t (by omega)
  refine ⟨fun i j hi hij hj => ?_, fun t h1 h2 => ?_⟩
  · rw [e i hi (by omega), e j (by omega) hj]
    exact B.sorted i j hi hij hj
  · rw [e t h1 h2]
    exact B.own t h1 h2
theorem Blk.cross {m : Fin (K + 1) → Int} {a k b : Nat} {d : Array (Fin (K + 1))} (A : Blk m a k d) (B : Blk m k b d) : CrossIn (ltZ m) (ordZ m) a k b d := fun i j h1 h2 h3 h4 => by
  have := A.own i h1 h2
  have := B.own j h3 h4
  exact ltZ_ord (by omega)
theorem Blk.merged {m : Fin (K + 1) → Int} {a k b : Nat} {d d' : Array (Fin (K + 1))} (hb : b ≤ d.size) (ak : a ≤ k) (kb : k ≤ b) (A : Blk m a k d) (B : Blk m k b d) (P : PermIn a b d d') (S : SortedIn (ordZ m) a b d') : Blk m a b d' :=
  ⟨S, permIn_all d d' a b (fun x => a ≤ x.val ∧ x.val < b) hb P (fun t h1 h2 => by
    by_cases c : t < k
    · have := A.own t h1 c
      omega
    · have := B.own t (by omega) h2
      omega)⟩
theorem perm_wide {a b n : Nat} {d0 d d' : Array (Fin (K + 1))} (h0 : PermIn 0 n d0 d) (hn : n ≤ d0.size) (hb : b ≤ n) (P : PermIn a b d d') : PermIn 0 n d0 d' :=
  permIn_trans _ _ _ _ _ h0 (permIn_mono d d' a b 0 n (Nat.zero_le _) hb (by rw [h0.1]; exact hn) P)
end
end Go.Proofs.YtkjecjehphgpjaaGreat.W

/- slices.SortStableFunc of at most 60 places, walked at []int: blocks of twenty, each sorted by insertion, then merged (written by wip/genSrF.py). -/
namespace Go.Proofs.YtkjecjehphgpjaaGreat.W
open Go.RowKit Go.Sort
set_option linter.unusedVariables false
set_option linter.unusedSimpArgs false
/-- A block sorted by insertion. -/
theorem zins_any {K : Nat} {w0 : World} {blk : Nat} {d0 : Array (Fin (K + 1))} {g : Nat} {cb : Array Value} {cf : Fin (K + 1) → Fin (K + 1) → Int} (R : RowZ w0 blk d0) (C : Cmp w0 blk d0 g cb cf) (m : Fin (K + 1) → Int) (hcf : Go.Proofs.ltOf cf = ltZ m) (cap a b : Nat) (az bz : Int) (ha : az = (a : Int)) (hbz : bz = (b : Int)) (d : Array (Fin (K + 1))) (hs : d.size = d0.size) (hsz : d0.size < 4611686018427387904) (hab : a ≤ b) (hb : b ≤ d0.size) (hI : Idn a d0.size d) (w : World) (S : RW w0 blk d w) :
    Calls Tryz.prog 58 #[.slice (some ⟨blk, 0, none⟩) d0.size cap, .int .i64 az, .int .i64 bz, .func (.func g) #[] cb] w fun e w' =>
      e = .returned (.tuple #[]) ∧ ∃ d' : Array (Fin (K + 1)), RW w0 blk d' w' ∧ d'.size = d0.size ∧ PermIn a b d d' ∧ Blk m a b d' ∧ Idn b d0.size d' := by
  subst ha hbz
  have c := Go.Proofs.Any.insertionSortCmpFunc_s insIt plZ cf g cb blk 0 cap a b d0 d w0 w C.enters (Go.Proofs.CmpReads.lays C.reads) R.one hs.symm S hab (by omega) (by omega)
  rw [hs] at c
  refine (show Calls Tryz.prog 58 #[.slice (some ⟨blk, 0, none⟩) d0.size cap, .int .i64 a, .int .i64 b, .func (.func g) #[] cb] w _ from c).mono ?_
  rintro e w' ⟨rfl, h⟩
  obtain ⟨q1, q2, q3, q4⟩ := ins_block m (n := d0.size) hab hb (by omega) hI (congrArg (fun lt => insertionSort lt d a b) hcf)
  exact ⟨rfl, _, h, q1.trans hs, q2, q3, q4⟩
/-- Two blocks, merged. -/
theorem zsym_any {K : Nat} {w0 : World} {blk : Nat} {d0 : Array (Fin (K + 1))} {g : Nat} {cb : Array Value} {cf : Fin (K + 1) → Fin (K + 1) → Int} (R : RowZ w0 blk d0) (C : Cmp w0 blk d0 g cb cf) (m : Fin (K + 1) → Int) (hcf : Go.Proofs.ltOf cf = ltZ m) (cap a k b : Nat) (az kz bz : Int) (ha : az = (a : Int)) (hk : kz = (k : Int)) (hbz : bz = (b : Int)) (d : Array (Fin (K + 1))) (hs : d.size = d0.size) (hsz : d0.size < 4611686018427387904) (hak : a < k) (hkb : k < b) (hb : b ≤ d0.size) (A : Blk m a k d) (B : Blk m k b d) (w : World) (S : RW w0 blk d w) :
    Calls Tryz.prog 59 #[.slice (some ⟨blk, 0, none⟩) d0.size cap, .int .i64 az, .int .i64 kz, .int .i64 bz, .func (.func g) #[] cb] w fun e w' =>
      e = .returned (.tuple #[]) ∧ ∃ d' : Array (Fin (K + 1)), RW w0 blk d' w' ∧ d'.size = d0.size ∧ PermIn a b d d' ∧ Blk m a b d' := by
  subst ha hk hbz
  refine (symm_any R C (ordZ m) (ordZ_swo m) cap hsz _ a k b d w (Nat.le_refl _) hak hkb hb hs A.sorted B.sorted (by rw [hcf]; exact A.cross B) S).mono ?_
  rintro e w' ⟨rfl, d', h, hd, P, O⟩
  exact ⟨rfl, d', h, hd, P, Blk.merged (by omega) (by omega) (by omega) A B P O⟩
set_option maxHeartbeats 8000000 in
set_option maxRecDepth 1000000 in
theorem stab0_any {K : Nat} {w0 : World} {blk : Nat} {d0 : Array (Fin (K + 1))} {g : Nat} {cb : Array Value} {cf : Fin (K + 1) → Fin (K + 1) → Int} (R : RowZ w0 blk d0) (C : Cmp w0 blk d0 g cb cf) (m : Fin (K + 1) → Int) (hcf : Go.Proofs.ltOf cf = ltZ m) (cap : Nat) (d : Array (Fin (K + 1))) (hs : d.size = d0.size) (hI : Idn 0 d0.size d) (w : World) (S : RW w0 blk d w) (l0 : 0 ≤ d0.size) (l1 : d0.size < 20) :
    Calls Tryz.prog 48 #[.slice (some ⟨blk, 0, none⟩) d0.size cap, .int .i64 d0.size, .func (.func g) #[] cb] w fun e w' =>
      e = .returned (.tuple #[]) ∧ ∃ d' : Array (Fin (K + 1)), RW w0 blk d' w' ∧ d'.size = d0.size ∧ PermIn 0 d0.size d d' ∧ SortedIn (ordZ m) 0 d0.size d' := by
  have hsz : d0.size < 4611686018427387904 := by omega
  have t20 : ¬ (20 : Int) ≤ (d0.size : Int) := by omega
  have r20 : ¬ (20 : Int) < (d0.size : Int) := by omega
  have t40 : ¬ (40 : Int) ≤ (d0.size : Int) := by omega
  have r40 : ¬ (40 : Int) < (d0.size : Int) := by omega
  have t60 : ¬ (60 : Int) ≤ (d0.size : Int) := by omega
  have r60 : ¬ (60 : Int) < (d0.size : Int) := by omega
  have t80 : ¬ (80 : Int) ≤ (d0.size : Int) := by omega
  have r80 : ¬ (80 : Int) < (d0.size : Int) := by omega
  have HS : Hid (RW w0 blk d w ∧ Idn 0 d0.size d ∧ PermIn 0 d0.size d d) := ⟨S, hI, permIn_refl _ _ _⟩
  have HT : Hid (0 ≤ d0.size ∧ d0.size < 20) := ⟨l0, l1⟩
  clear S hI l0 l1
  go_enter Tryz.func48, Tryz.ntmps48
  go_wp2_with fail
  refine wp_loop_rounds 1 ?_
  rw [rounds_succ]
  have c := zins_any R C m hcf cap 0 d0.size 0 (d0.size : Int) rfl rfl d hs hsz (by have := HT.out; omega) (by have := HT.out; omega) HS.out.2.1 w HS.out.1
  go_wp2_with fail
  (with_reducible refine c.mono ?_)
  rintro e w1 ⟨rfl, d1, S1, s1, P1, B1, I1⟩
  have H1 : Hid _ := Lib.hid (And.intro S1 (And.intro P1 (And.intro B1 I1)))
  clear c S1 P1 B1 I1
  go_wp2_with fail
  refine wp_loop_rounds 1 ?_
  rw [rounds_succ]
  go_wp2_with fail
  go_end0
  exact ⟨rfl, d1, H1.out.1, s1, (perm_wide HS.out.2.2 (by omega) (by have := HT.out; omega) H1.out.2.1), (H1.out.2.2.1).sorted⟩
set_option maxHeartbeats 8000000 in
set_option maxRecDepth 1000000 in
theorem stab1_any {K : Nat} {w0 : World} {blk : Nat} {d0 : Array (Fin (K + 1))} {g : Nat} {cb : Array Value} {cf : Fin (K + 1) → Fin (K + 1) → Int} (R : RowZ w0 blk d0) (C : Cmp w0 blk d0 g cb cf) (m : Fin (K + 1) → Int) (hcf : Go.Proofs.ltOf cf = ltZ m) (cap : Nat) (d : Array (Fin (K + 1))) (hs : d.size = d0.size) (hI : Idn 0 d0.size d) (w : World) (S : RW w0 blk d w) (l0 : 20 ≤ d0.size) (l1 : d0.size < 21) :
    Calls Tryz.prog 48 #[.slice (some ⟨blk, 0, none⟩) d0.size cap, .int .i64 d0.size, .func (.func g) #[] cb] w fun e w' =>
      e = .returned (.tuple #[]) ∧ ∃ d' : Array (Fin (K + 1)), RW w0 blk d' w' ∧ d'.size = d0.size ∧ PermIn 0 d0.size d d' ∧ SortedIn (ordZ m) 0 d0.size d' := by
  have hsz : d0.size < 4611686018427387904 := by omega
  have t20 : (20 : Int) ≤ (d0.size : Int) := by omega
  have r20 : ¬ (20 : Int) < (d0.size : Int) := by omega
  have t40 : ¬ (40 : Int) ≤ (d0.size : Int) := by omega
  have r40 : ¬ (40 : Int) < (d0.size : Int) := by omega
  have t60 : ¬ (60 : Int) ≤ (d0.size : Int) := by omega
  have r60 : ¬ (60 : Int) < (d0.size : Int) := by omega
  have t80 : ¬ (80 : Int) ≤ (d0.size : Int) := by omega
  have r80 : ¬ (80 : Int) < (d0.size : Int) := by omega
  have HS : Hid (RW w0 blk d w ∧ Idn 0 d0.size d ∧ PermIn 0 d0.size d d) := ⟨S, hI, permIn_refl _ _ _⟩
  have HT : Hid (20 ≤ d0.size ∧ d0.size < 21) := ⟨l0, l1⟩
  clear S hI l0 l1
  go_enter Tryz.func48, Tryz.ntmps48
  go_wp2_with fail
  refine wp_loop_rounds 2 ?_
  rw [rounds_succ]
  have c := zins_any R C m hcf cap 0 20 0 20 rfl rfl d hs hsz (by have := HT.out; omega) (by have := HT.out; omega) HS.out.2.1 w HS.out.1
  go_wp2_with fail
  (with_reducible refine c.mono ?_)
  rintro e w1 ⟨rfl, d1, S1, s1, P1, B1, I1⟩
  have H1 : Hid _ := Lib.hid (And.intro S1 (And.intro P1 (And.intro B1 I1)))
  clear c S1 P1 B1 I1
  go_wp2_with fail
  rw [rounds_succ]
  have c := zins_any R C m hcf cap 20 d0.size 20 (d0.size : Int) rfl rfl d1 s1 hsz (by have := HT.out; omega) (by have := HT.out; omega) H1.out.2.2.2 w1 H1.out.1
  go_wp2_with fail
  (with_reducible refine c.mono ?_)
  rintro e w2 ⟨rfl, d2, S2, s2, P2, B2, I2⟩
  have H2 : Hid _ := Lib.hid (And.intro S2 (And.intro P2 (And.intro B2 I2)))
  clear c S2 P2 B2 I2
  go_wp2_with fail
  refine wp_loop_rounds 1 ?_
  rw [rounds_succ]
  go_wp2_with fail
  go_end0
  have HE : 20 = d0.size := by have := HT.out; omega
  have HL := ((H1.out.2.2.1.kept H2.out.2.1 (by have := HT.out; omega))).sorted
  rw [HE] at HL
  exact ⟨rfl, d2, H2.out.1, s2, (perm_wide (perm_wide HS.out.2.2 (by omega) (by have := HT.out; omega) H1.out.2.1) (by omega) (by have := HT.out; omega) H2.out.2.1), HL⟩
set_option maxHeartbeats 8000000 in
set_option maxRecDepth 1000000 in
theorem stab2_any {K : Nat} {w0 : World} {blk : Nat} {d0 : Array (Fin (K + 1))} {g : Nat} {cb : Array Value} {cf : Fin (K + 1) → Fin (K + 1) → Int} (R : RowZ w0 blk d0) (C : Cmp w0 blk d0 g cb cf) (m : Fin (K + 1) → Int) (hcf : Go.Proofs.ltOf cf = ltZ m) (cap : Nat) (d : Array (Fin (K + 1))) (hs : d.size = d0.size) (hI : Idn 0 d0.size d) (w : World) (S : RW w0 blk d w) (l0 : 21 ≤ d0.size) (l1 : d0.size < 40) :
    Calls Tryz.prog 48 #[.slice (some ⟨blk, 0, none⟩) d0.size cap, .int .i64 d0.size, .func (.func g) #[] cb] w fun e w' =>
      e = .returned (.tuple #[]) ∧ ∃ d' : Array (Fin (K + 1)), RW w0 blk d' w' ∧ d'.size = d0.size ∧ PermIn 0 d0.size d d' ∧ SortedIn (ordZ m) 0 d0.size d' := by
  have hsz : d0.size < 4611686018427387904 := by omega
  have t20 : (20 : Int) ≤ (d0.size : Int) := by omega
  have r20 : (20 : Int) < (d0.size : Int) := by omega
  have t40 : ¬ (40 : Int) ≤ (d0.size : Int) := by omega
  have r40 : ¬ (40 : Int) < (d0.size : Int) := by omega
  have t60 : ¬ (60 : Int) ≤ (d0.size : Int) := by omega
  have r60 : ¬ (60 : Int) < (d0.size : Int) := by omega
  have t80 : ¬ (80 : Int) ≤ (d0.size : Int) := by omega
  have r80 : ¬ (80 : Int) < (d0.size : Int) := by omega
  have HS : Hid (RW w0 blk d w ∧ Idn 0 d0.size d ∧ PermIn 0 d0.size d d) := ⟨S, hI, permIn_refl _ _ _⟩
  have HT : Hid (21 ≤ d0.size ∧ d0.size < 40) := ⟨l0, l1⟩
  clear S hI l0 l1
  go_enter Tryz.func48, Tryz.ntmps48
  go_wp2_with fail
  refine wp_loop_rounds 2 ?_
  rw [rounds_succ]
  have c := zins_any R C m hcf cap 0 20 0 20 rfl rfl d hs hsz (by have := HT.out; omega) (by have := HT.out; omega) HS.out.2.1 w HS.out.1
  go_wp2_with fail
  (with_reducible refine c.mono ?_)
  rintro e w1 ⟨rfl, d1, S1, s1, P1, B1, I1⟩
  have H1 : Hid _ := Lib.hid (And.intro S1 (And.intro P1 (And.intro B1 I1)))
  clear c S1 P1 B1 I1
  go_wp2_with fail
  rw [rounds_succ]
  have c := zins_any R C m hcf cap 20 d0.size 20 (d0.size : Int) rfl rfl d1 s1 hsz (by have := HT.out; omega) (by have := HT.out; omega) H1.out.2.2.2 w1 H1.out.1
  go_wp2_with fail
  (with_reducible refine c.mono ?_)
  rintro e w2 ⟨rfl, d2, S2, s2, P2, B2, I2⟩
  have H2 : Hid _ := Lib.hid (And.intro S2 (And.intro P2 (And.intro B2 I2)))
  clear c S2 P2 B2 I2
  go_wp2_with fail
  refine wp_loop_rounds 2 ?_
  rw [rounds_succ]
  go_wp2_with fail
  refine wp_loop_rounds 1 ?_
  rw [rounds_succ]
  have c := zsym_any R C m hcf cap 0 20 d0.size 0 20 (d0.size : Int) rfl rfl rfl d2 s2 hsz (by have := HT.out; omega) (by have := HT.out; omega) (by have := HT.out; omega) (H1.out.2.2.1.kept H2.out.2.1 (by have := HT.out; omega)) H2.out.2.2.1 w2 H2.out.1
  go_wp2_with fail
  (with_reducible refine c.mono ?_)
  rintro e w3 ⟨rfl, d3, S3, s3, P3, B3⟩
  have H3 : Hid _ := Lib.hid (And.intro S3 (And.intro P3 B3))
  clear c S3 P3 B3
  go_wp2_with fail
  rw [rounds_succ]
  go_wp2_with fail
  go_end0
  exact ⟨rfl, d3, H3.out.1, s3, (perm_wide (perm_wide (perm_wide HS.out.2.2 (by omega) (by have := HT.out; omega) H1.out.2.1) (by omega) (by have := HT.out; omega) H2.out.2.1) (by omega) (by have := HT.out; omega) H3.out.2.1), (H3.out.2.2).sorted⟩
set_option maxHeartbeats 8000000 in
set_option maxRecDepth 1000000 in
theorem stab3_any {K : Nat} {w0 : World} {blk : Nat} {d0 : Array (Fin (K + 1))} {g : Nat} {cb : Array Value} {cf : Fin (K + 1) → Fin (K + 1) → Int} (R : RowZ w0 blk d0) (C : Cmp w0 blk d0 g cb cf) (m : Fin (K + 1) → Int) (hcf : Go.Proofs.ltOf cf = ltZ m) (cap : Nat) (d : Array (Fin (K + 1))) (hs : d.size = d0.size) (hI : Idn 0 d0.size d) (w : World) (S : RW w0 blk d w) (l0 : 40 ≤ d0.size) (l1 : d0.size < 41) :
    Calls Tryz.prog 48 #[.slice (some ⟨blk, 0, none⟩) d0.size cap, .int .i64 d0.size, .func (.func g) #[] cb] w fun e w' =>
      e = .returned (.tuple #[]) ∧ ∃ d' : Array (Fin (K + 1)), RW w0 blk d' w' ∧ d'.size = d0.size ∧ PermIn 0 d0.size d d' ∧ SortedIn (ordZ m) 0 d0.size d' := by
  have hsz : d0.size < 4611686018427387904 := by omega
  have t20 : (20 : Int) ≤ (d0.size : Int) := by omega
  have r20 : (20 : Int) < (d0.size : Int) := by omega
  have t40 : (40 : Int) ≤ (d0.size : Int) := by omega
  have r40 : ¬ (40 : Int) < (d0.size : Int) := by omega
  have t60 : ¬ (60 : Int) ≤ (d0.size : Int) := by omega
  have r60 : ¬ (60 : Int) < (d0.size : Int) := by omega
  have t80 : ¬ (80 : Int) ≤ (d0.size : Int) := by omega
  have r80 : ¬ (80 : Int) < (d0.size : Int) := by omega
  have HS : Hid (RW w0 blk d w ∧ Idn 0 d0.size d ∧ PermIn 0 d0.size d d) := ⟨S, hI, permIn_refl _ _ _⟩
  have HT : Hid (40 ≤ d0.size ∧ d0.size < 41) := ⟨l0, l1⟩
  clear S hI l0 l1
  go_enter Tryz.func48, Tryz.ntmps48
  go_wp2_with fail
  refine wp_loop_rounds 3 ?_
  rw [rounds_succ]
  have c := zins_any R C m hcf cap 0 20 0 20 rfl rfl d hs hsz (by have := HT.out; omega) (by have := HT.out; omega) HS.out.2.1 w HS.out.1
  go_wp2_with fail
  (with_reducible refine c.mono ?_)
  rintro e w1 ⟨rfl, d1, S1, s1, P1, B1, I1⟩
  have H1 : Hid _ := Lib.hid (And.intro S1 (And.intro P1 (And.intro B1 I1)))
  clear c S1 P1 B1 I1
  go_wp2_with fail
  rw [rounds_succ]
  have c := zins_any R C m hcf cap 20 40 20 40 rfl rfl d1 s1 hsz (by have := HT.out; omega) (by have := HT.out; omega) H1.out.2.2.2 w1 H1.out.1
  go_wp2_with fail
  (with_reducible refine c.mono ?_)
  rintro e w2 ⟨rfl, d2, S2, s2, P2, B2, I2⟩
  have H2 : Hid _ := Lib.hid (And.intro S2 (And.intro P2 (And.intro B2 I2)))
  clear c S2 P2 B2 I2
  go_wp2_with fail
  rw [rounds_succ]
  have c := zins_any R C m hcf cap 40 d0.size 40 (d0.size : Int) rfl rfl d2 s2 hsz (by have := HT.out; omega) (by have := HT.out; omega) H2.out.2.2.2 w2 H2.out.1
  go_wp2_with fail
  (with_reducible refine c.mono ?_)
  rintro e w3 ⟨rfl, d3, S3, s3, P3, B3, I3⟩
  have H3 : Hid _ := Lib.hid (And.intro S3 (And.intro P3 (And.intro B3 I3)))
  clear c S3 P3 B3 I3
  go_wp2_with fail
  refine wp_loop_rounds 2 ?_
  rw [rounds_succ]
  go_wp2_with fail
  refine wp_loop_rounds 2 ?_
  rw [rounds_succ]
  have c := zsym_any R C m hcf cap 0 20 40 0 20 40 rfl rfl rfl d3 s3 hsz (by have := HT.out; omega) (by have := HT.out; omega) (by have := HT.out; omega) ((H1.out.2.2.1.kept H2.out.2.1 (by have := HT.out; omega)).kept H3.out.2.1 (by have := HT.out; omega)) (H2.out.2.2.1.kept H3.out.2.1 (by have := HT.out; omega)) w3 H3.out.1
  go_wp2_with fail
  (with_reducible refine c.mono ?_)
  rintro e w4 ⟨rfl, d4, S4, s4, P4, B4⟩
  have H4 : Hid _ := Lib.hid (And.intro S4 (And.intro P4 B4))
  clear c S4 P4 B4
  go_wp2_with fail
  rw [rounds_succ]
  go_wp2_with fail
  rw [rounds_succ]
  go_wp2_with fail
  go_end0
  have HE : 40 = d0.size := by have := HT.out; omega
  have HL := (H4.out.2.2).sorted
  rw [HE] at HL
  exact ⟨rfl, d4, H4.out.1, s4, (perm_wide (perm_wide (perm_wide (perm_wide HS.out.2.2 (by omega) (by have := HT.out; omega) H1.out.2.1) (by omega) (by have := HT.out; omega) H2.out.2.1) (by omega) (by have := HT.out; omega) H3.out.2.1) (by omega) (by have := HT.out; omega) H4.out.2.1), HL⟩
set_option maxHeartbeats 8000000 in
set_option maxRecDepth 1000000 in
theorem stab4_any {K : Nat} {w0 : World} {blk : Nat} {d0 : Array (Fin (K + 1))} {g : Nat} {cb : Array Value} {cf : Fin (K + 1) → Fin (K + 1) → Int} (R : RowZ w0 blk d0) (C : Cmp w0 blk d0 g cb cf) (m : Fin (K + 1) → Int) (hcf : Go.Proofs.ltOf cf = ltZ m) (cap : Nat) (d : Array (Fin (K + 1))) (hs : d.size = d0.size) (hI : Idn 0 d0.size d) (w : World) (S : RW w0 blk d w) (l0 : 41 ≤ d0.size) (l1 : d0.size < 60) :
    Calls Tryz.prog 48 #[.slice (some ⟨blk, 0, none⟩) d0.size cap, .int .i64 d0.size, .func (.func g) #[] cb] w fun e w' =>
      e = .returned (.tuple #[]) ∧ ∃ d' : Array (Fin (K + 1)), RW w0 blk d' w' ∧ d'.size = d0.size ∧ PermIn 0 d0.size d d' ∧ SortedIn (ordZ m) 0 d0.size d' := by
  have hsz : d0.size < 4611686018427387904 := by omega
  have t20 : (20 : Int) ≤ (d0.size : Int) := by omega
  have r20 : (20 : Int) < (d0.size : Int) := by omega
  have t40 : (40 : Int) ≤ (d0.size : Int) := by omega
  have r40 : (40 : Int) < (d0.size : Int) := by omega
  have t60 : ¬ (60 : Int) ≤ (d0.size : Int) := by omega
  have r60 : ¬ (60 : Int) < (d0.size : Int) := by omega
  have t80 : ¬ (80 : Int) ≤ (d0.size : Int) := by omega
  have r80 : ¬ (80 : Int) < (d0.size : Int) := by omega
  have HS : Hid (RW w0 blk d w ∧ Idn 0 d0.size d ∧ PermIn 0 d0.size d d) := ⟨S, hI, permIn_refl _ _ _⟩
  have HT : Hid (41 ≤ d0.size ∧ d0.size < 60) := ⟨l0, l1⟩
  clear S hI l0 l1
  go_enter Tryz.func48, Tryz.ntmps48
  go_wp2_with fail
  refine wp_loop_rounds 3 ?_
  rw [rounds_succ]
  have c := zins_any R C m hcf cap 0 20 0 20 rfl rfl d hs hsz (by have := HT.out; omega) (by have := HT.out; omega) HS.out.2.1 w HS.out.1
  go_wp2_with fail
  (with_reducible refine c.mono ?_)
  rintro e w1 ⟨rfl, d1, S1, s1, P1, B1, I1⟩
  have H1 : Hid _ := Lib.hid (And.intro S1 (And.intro P1 (And.intro B1 I1)))
  clear c S1 P1 B1 I1
  go_wp2_with fail
  rw [rounds_succ]
  have c := zins_any R C m hcf cap 20 40 20 40 rfl rfl d1 s1 hsz (by have := HT.out; omega) (by have := HT.out; omega) H1.out.2.2.2 w1 H1.out.1
  go_wp2_with fail
  (with_reducible refine c.mono ?_)
  rintro e w2 ⟨rfl, d2, S2, s2, P2, B2, I2⟩
  have H2 : Hid _ := Lib.hid (And.intro S2 (And.intro P2 (And.intro B2 I2)))
  clear c S2 P2 B2 I2
  go_wp2_with fail
  rw [rounds_succ]
  have c := zins_any R C m hcf cap 40 d0.size 40 (d0.size : Int) rfl rfl d2 s2 hsz (by have := HT.out; omega) (by have := HT.out; omega) H2.out.2.2.2 w2 H2.out.1
  go_wp2_with fail
  (with_reducible refine c.mono ?_)
  rintro e w3 ⟨rfl, d3, S3, s3, P3, B3, I3⟩
  have H3 : Hid _ := Lib.hid (And.intro S3 (And.intro P3 (And.intro B3 I3)))
  clear c S3 P3 B3 I3
  go_wp2_with fail
  refine wp_loop_rounds 3 ?_
  rw [rounds_succ]
  go_wp2_with fail
  refine wp_loop_rounds 2 ?_
  rw [rounds_succ]
  have c := zsym_any R C m hcf cap 0 20 40 0 20 40 rfl rfl rfl d3 s3 hsz (by have := HT.out; omega) (by have := HT.out; omega) (by have := HT.out; omega) ((H1.out.2.2.1.kept H2.out.2.1 (by have := HT.out; omega)).kept H3.out.2.1 (by have := HT.out; omega)) (H2.out.2.2.1.kept H3.out.2.1 (by have := HT.out; omega)) w3 H3.out.1
  go_wp2_with fail
  (with_reducible refine c.mono ?_)
  rintro e w4 ⟨rfl, d4, S4, s4, P4, B4⟩
  have H4 : Hid _ := Lib.hid (And.intro S4 (And.intro P4 B4))
  clear c S4 P4 B4
  go_wp2_with fail
  rw [rounds_succ]
  go_wp2_with fail
  rw [rounds_succ]
  go_wp2_with fail
  refine wp_loop_rounds 1 ?_
  rw [rounds_succ]
  have c := zsym_any R C m hcf cap 0 40 d0.size 0 40 (d0.size : Int) rfl rfl rfl d4 s4 hsz (by have := HT.out; omega) (by have := HT.out; omega) (by have := HT.out; omega) H4.out.2.2 (H3.out.2.2.1.kept H4.out.2.1 (by have := HT.out; omega)) w4 H4.out.1
  go_wp2_with fail
  (with_reducible refine c.mono ?_)
  rintro e w5 ⟨rfl, d5, S5, s5, P5, B5⟩
  have H5 : Hid _ := Lib.hid (And.intro S5 (And.intro P5 B5))
  clear c S5 P5 B5
  go_wp2_with fail
  rw [rounds_succ]
  go_wp2_with fail
  go_end0
  exact ⟨rfl, d5, H5.out.1, s5, (perm_wide (perm_wide (perm_wide (perm_wide (perm_wide HS.out.2.2 (by omega) (by have := HT.out; omega) H1.out.2.1) (by omega) (by have := HT.out; omega) H2.out.2.1) (by omega) (by have := HT.out; omega) H3.out.2.1) (by omega) (by have := HT.out; omega) H4.out.2.1) (by omega) (by have := HT.out; omega) H5.out.2.1), (H5.out.2.2).sorted⟩
set_option maxHeartbeats 8000000 in
set_option maxRecDepth 1000000 in
theorem stab5_any {K : Nat} {w0 : World} {blk : Nat} {d0 : Array (Fin (K + 1))} {g : Nat} {cb : Array Value} {cf : Fin (K + 1) → Fin (K + 1) → Int} (R : RowZ w0 blk d0) (C : Cmp w0 blk d0 g cb cf) (m : Fin (K + 1) → Int) (hcf : Go.Proofs.ltOf cf = ltZ m) (cap : Nat) (d : Array (Fin (K + 1))) (hs : d.size = d0.size) (hI : Idn 0 d0.size d) (w : World) (S : RW w0 blk d w) (l0 : 60 ≤ d0.size) (l1 : d0.size < 61) :
    Calls Tryz.prog 48 #[.slice (some ⟨blk, 0, none⟩) d0.size cap, .int .i64 d0.size, .func (.func g) #[] cb] w fun e w' =>
      e = .returned (.tuple #[]) ∧ ∃ d' : Array (Fin (K + 1)), RW w0 blk d' w' ∧ d'.size = d0.size ∧ PermIn 0 d0.size d d' ∧ SortedIn (ordZ m) 0 d0.size d' := by
  have hsz : d0.size < 4611686018427387904 := by omega
  have t20 : (20 : Int) ≤ (d0.size : Int) := by omega
  have r20 : (20 : Int) < (d0.size : Int) := by omega
  have t40 : (40 : Int) ≤ (d0.size : Int) := by omega
  have r40 : (40 : Int) < (d0.size : Int) := by omega
  have t60 : (60 : Int) ≤ (d0.size : Int) := by omega
  have r60 : ¬ (60 : Int) < (d0.size : Int) := by omega
  have t80 : ¬ (80 : Int) ≤ (d0.size : Int) := by omega
  have r80 : ¬ (80 : Int) < (d0.size : Int) := by omega
  have HS : Hid (RW w0 blk d w ∧ Idn 0 d0.size d ∧ PermIn 0 d0.size d d) := ⟨S, hI, permIn_refl _ _ _⟩
  have HT : Hid (60 ≤ d0.size ∧ d0.size < 61) := ⟨l0, l1⟩
  clear S hI l0 l1
  go_enter Tryz.func48, Tryz.ntmps48
  go_wp2_with fail
  refine wp_loop_rounds 4 ?_
  rw [rounds_succ]
  have c := zins_any R C m hcf cap 0 20 0 20 rfl rfl d hs hsz (by have := HT.out; omega) (by have := HT.out; omega) HS.out.2.1 w HS.out.1
  go_wp2_with fail
  (with_reducible refine c.mono ?_)
  rintro e w1 ⟨rfl, d1, S1, s1, P1, B1, I1⟩
  have H1 : Hid _ := Lib.hid (And.intro S1 (And.intro P1 (And.intro B1 I1)))
  clear c S1 P1 B1 I1
  go_wp2_with fail
  rw [rounds_succ]
  have c := zins_any R C m hcf cap 20 40 20 40 rfl rfl d1 s1 hsz (by have := HT.out; omega) (by have := HT.out; omega) H1.out.2.2.2 w1 H1.out.1
  go_wp2_with fail
  (with_reducible refine c.mono ?_)
  rintro e w2 ⟨rfl, d2, S2, s2, P2, B2, I2⟩
  have H2 : Hid _ := Lib.hid (And.intro S2 (And.intro P2 (And.intro B2 I2)))
  clear c S2 P2 B2 I2
  go_wp2_with fail
  rw [rounds_succ]
  have c := zins_any R C m hcf cap 40 60 40 60 rfl rfl d2 s2 hsz (by have := HT.out; omega) (by have := HT.out; omega) H2.out.2.2.2 w2 H2.out.1
  go_wp2_with fail
  (with_reducible refine c.mono ?_)
  rintro e w3 ⟨rfl, d3, S3, s3, P3, B3, I3⟩
  have H3 : Hid _ := Lib.hid (And.intro S3 (And.intro P3 (And.intro B3 I3)))
  clear c S3 P3 B3 I3
  go_wp2_with fail
  rw [rounds_succ]
  have c := zins_any R C m hcf cap 60 d0.size 60 (d0.size : Int) rfl rfl d3 s3 hsz (by have := HT.out; omega) (by have := HT.out; omega) H3.out.2.2.2 w3 H3.out.1
  go_wp2_with fail
  (with_reducible refine c.mono ?_)
  rintro e w4 ⟨rfl, d4, S4, s4, P4, B4, I4⟩
  have H4 : Hid _ := Lib.hid (And.intro S4 (And.intro P4 (And.intro B4 I4)))
  clear c S4 P4 B4 I4
  go_wp2_with fail
  refine wp_loop_rounds 3 ?_
  rw [rounds_succ]
  go_wp2_with fail
  refine wp_loop_rounds 2 ?_
  rw [rounds_succ]
  have c := zsym_any R C m hcf cap 0 20 40 0 20 40 rfl rfl rfl d4 s4 hsz (by have := HT.out; omega) (by have := HT.out; omega) (by have := HT.out; omega) (((H1.out.2.2.1.kept H2.out.2.1 (by have := HT.out; omega)).kept H3.out.2.1 (by have := HT.out; omega)).kept H4.out.2.1 (by have := HT.out; omega)) ((H2.out.2.2.1.kept H3.out.2.1 (by have := HT.out; omega)).kept H4.out.2.1 (by have := HT.out; omega)) w4 H4.out.1
  go_wp2_with fail
  (with_reducible refine c.mono ?_)
  rintro e w5 ⟨rfl, d5, S5, s5, P5, B5⟩
  have H5 : Hid _ := Lib.hid (And.intro S5 (And.intro P5 B5))
  clear c S5 P5 B5
  go_wp2_with fail
  rw [rounds_succ]
  go_wp2_with fail
  rw [rounds_succ]
  go_wp2_with fail
  refine wp_loop_rounds 1 ?_
  rw [rounds_succ]
  have c := zsym_any R C m hcf cap 0 40 d0.size 0 40 (d0.size : Int) rfl rfl rfl d5 s5 hsz (by have := HT.out; omega) (by have := HT.out; omega) (by have := HT.out; omega) H5.out.2.2 ((show 60 = d0.size by have := HT.out; omega) ▸ ((H3.out.2.2.1.kept H4.out.2.1 (by have := HT.out; omega)).kept H5.out.2.1 (by have := HT.out; omega))) w5 H5.out.1
  go_wp2_with fail
  (with_reducible refine c.mono ?_)
  rintro e w6 ⟨rfl, d6, S6, s6, P6, B6⟩
  have H6 : Hid _ := Lib.hid (And.intro S6 (And.intro P6 B6))
  clear c S6 P6 B6
  go_wp2_with fail
  rw [rounds_succ]
  go_wp2_with fail
  go_end0
  exact ⟨rfl, d6, H6.out.1, s6, (perm_wide (perm_wide (perm_wide (perm_wide (perm_wide (perm_wide HS.out.2.2 (by omega) (by have := HT.out; omega) H1.out.2.1) (by omega) (by have := HT.out; omega) H2.out.2.1) (by omega) (by have := HT.out; omega) H3.out.2.1) (by omega) (by have := HT.out; omega) H4.out.2.1) (by omega) (by have := HT.out; omega) H5.out.2.1) (by omega) (by have := HT.out; omega) H6.out.2.1), (H6.out.2.2).sorted⟩
/-- slices.stableCmpFunc of at most 60 places. -/
theorem stab_any {K : Nat} {w0 : World} {blk : Nat} {d0 : Array (Fin (K + 1))} {g : Nat} {cb : Array Value} {cf : Fin (K + 1) → Fin (K + 1) → Int} (R : RowZ w0 blk d0) (C : Cmp w0 blk d0 g cb cf) (m : Fin (K + 1) → Int) (hcf : Go.Proofs.ltOf cf = ltZ m) (cap : Nat) (d : Array (Fin (K + 1))) (hs : d.size = d0.size) (hI : Idn 0 d0.size d) (w : World) (S : RW w0 blk d w) (h60 : d0.size ≤ 60) :
    Calls Tryz.prog 32 #[.slice (some ⟨blk, 0, none⟩) d0.size cap, .func (.func g) #[] cb] w fun e w' =>
      e = .returned (.tuple #[]) ∧ ∃ d' : Array (Fin (K + 1)), RW w0 blk d' w' ∧ d'.size = d0.size ∧ PermIn 0 d0.size d d' ∧ SortedIn (ordZ m) 0 d0.size d' := by
  have c : Calls Tryz.prog 48 #[.slice (some ⟨blk, 0, none⟩) d0.size cap, .int .i64 d0.size, .func (.func g) #[] cb] w fun e w' =>
      e = .returned (.tuple #[]) ∧ ∃ d' : Array (Fin (K + 1)), RW w0 blk d' w' ∧ d'.size = d0.size ∧ PermIn 0 d0.size d d' ∧ SortedIn (ordZ m) 0 d0.size d' := by
    by_cases c0 : d0.size < 20
    · exact stab0_any R C m hcf cap d hs hI w S (Nat.zero_le _) c0
    · by_cases c1 : d0.size < 21
      · exact stab1_any R C m hcf cap d hs hI w S (by omega) c1
      · by_cases c2 : d0.size < 40
        · exact stab2_any R C m hcf cap d hs hI w S (by omega) c2
        · by_cases c3 : d0.size < 41
          · exact stab3_any R C m hcf cap d hs hI w S (by omega) c3
          · by_cases c4 : d0.size < 60
            · exact stab4_any R C m hcf cap d hs hI w S (by omega) c4
            · exact stab5_any R C m hcf cap d hs hI w S (by omega) (by omega)
  go_enter Tryz.func32, Tryz.ntmps32
  go_wp2_with fail
  (with_reducible refine c.mono ?_)
  rintro e w2 ⟨rfl, h⟩
  have H := Lib.hid h
  clear h c
  go_wp2_with fail
  go_end0
  exact ⟨rfl, H.out⟩
end Go.Proofs.YtkjecjehphgpjaaGreat.W

