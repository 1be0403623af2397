/- Slices of whatever elements, as they are read; worlds in which few blocks were touched. No program in it. -/
import Derived.WalkKit
import Derived.Below
import Derived.OwnWalk
import Derived.Deep.Slices
import Derived.Lib.SmallJoins
namespace Go.Proofs.YtlidlmgmijndcaaGreat.W
open Go.RowKit
set_option linter.unusedVariables false
theorem cell_same {w w' : World} {b : Nat} (h : w'.heap[b]? = w.heap[b]?) (o : Nat) : w'.cell? ⟨b, o, none⟩ = w.cell? ⟨b, o, none⟩ := by
  simp [World.cell?, h]
/-- A slice whose elements have k cells each; its row lies in a block of F. -/
def SlAt {α : Type} (F : Nat → Prop) (k : Nat) (enc : α → List Value) (w : World) (v : Value) (l : List α) : Prop :=
  (∃ a c, v = .slice a 0 c ∧ (a = none → c = 0) ∧ l = []) ∨
  ∃ b off cap, v = .slice (some ⟨b, off, none⟩) l.length cap ∧ F b ∧ ∀ i x, l[i]? = some x → ∀ j u, (enc x)[j]? = some u → w.cell? ⟨b, off + i * k + j, none⟩ = some u
theorem SlAt.slice {α : Type} {F : Nat → Prop} {k : Nat} {enc : α → List Value} {w : World} {v : Value} {l : List α} (h : SlAt F k enc w v l) : ∃ x c, v = .slice x l.length c := by
  rcases h with ⟨_, _, rfl, _, rfl⟩ | ⟨b, off, cap, rfl, _⟩
  · exact ⟨_, _, rfl⟩
  · exact ⟨_, _, rfl⟩
theorem SlAt.kept {α : Type} {F : Nat → Prop} {k : Nat} {enc : α → List Value} {w w' : World} {v : Value} {l : List α} (h : SlAt F k enc w v l) (hk : ∀ b, F b → w'.heap[b]? = w.heap[b]?) : SlAt F k enc w' v l := by
  rcases h with h | ⟨b, off, cap, hv, hb, hc⟩
  · exact .inl h
  · exact .inr ⟨b, off, cap, hv, hb, fun i x hx j u hu => (cell_same (hk b hb) _).trans (hc i x hx j u hu)⟩
theorem SlAt.mono {α : Type} {F G : Nat → Prop} {k : Nat} {enc : α → List Value} {w : World} {v : Value} {l : List α} (h : SlAt F k enc w v l) (hFG : ∀ b, F b → G b) : SlAt G k enc w v l := by
  rcases h with h | ⟨b, off, cap, hv, hb, hc⟩
  · exact .inl h
  · exact .inr ⟨b, off, cap, hv, hFG b hb, hc⟩
theorem flat_at {α : Type} (k : Nat) (enc : α → List Value) (hk : ∀ x, (enc x).length = k) : ∀ (l : List α) (i : Nat) (x : α), l[i]? = some x → ∀ j u, (enc x)[j]? = some u → (l.flatMap enc)[i * k + j]? = some u
  | [], i, x, h, _, _, _ => by simp at h
  | y :: l, 0, x, h, j, u, hu => by
    simp at h
    subst h
    have hj : j < (enc y).length := (List.getElem?_eq_some_iff.1 hu).1
    rw [List.flatMap_cons, Nat.zero_mul, Nat.zero_add, List.getElem?_append_left hj]
    exact hu
  | y :: l, i + 1, x, h, j, u, hu => by
    have := flat_at k enc hk l i x (by simpa using h) j u hu
    rw [List.flatMap_cons, List.getElem?_append_right (by rw [hk, Nat.succ_mul]; omega), hk, show (i + 1) * k + j - k = i * k + j by rw [Nat.succ_mul]; omega]
    exact this
theorem SlAt.own {α : Type} {k : Nat} {enc : α → List Value} (hk : ∀ x, (enc x).length = k) {w : World} {base : Nat} {e : TypeId} {v : Value} {l : List α} (h : w.ownsRow base e k v l.length (l.flatMap enc)) :
    SlAt (fun b => base ≤ b ∧ b < w.heap.size) k enc w v l := by
  rcases h.2 with ⟨rfl, hn⟩ | ⟨g, cap, cur, rfl, hb, hg, h1, h2, h3, h4⟩
  · exact .inl ⟨none, 0, rfl, fun _ => rfl, List.eq_nil_of_length_eq_zero hn⟩
  · refine .inr ⟨g, 0, cap, rfl, ⟨hb, (Array.getElem?_eq_some_iff.1 hg).1⟩, fun i x hx j u hu => ?_⟩
    have c := h.cells (g := g) rfl (i * k + j) u (flat_at k enc hk l i x hx j u hu)
    rw [Addr.add_lit] at c
    rw [Nat.zero_add] at c ⊢
    exact c
theorem choose_list {α : Type} {R : Nat → α → Prop} : ∀ n : Nat, (∀ i, i < n → ∃ x, R i x) → ∃ l : List α, l.length = n ∧ ∀ i x, l[i]? = some x → R i x
  | 0, _ => ⟨[], rfl, by simp⟩
  | n + 1, h => by
    obtain ⟨l, h1, h2⟩ := choose_list n (fun i hi => h i (by omega))
    obtain ⟨x, hx⟩ := h n (by omega)
    refine ⟨l ++ [x], by simp [h1], fun i y hy => ?_⟩
    by_cases hi : i < l.length
    · rw [List.getElem?_append_left hi] at hy
      exact h2 i y hy
    · rw [List.getElem?_append_right (by omega)] at hy
      have hi0 : i - l.length = 0 := by
        have := (List.getElem?_eq_some_iff.1 hy).1
        simp at this
        omega
      rw [hi0] at hy
      simp at hy
      subst hy
      rw [show i = n by omega]
      exact hx
/-- A slice that came in as an argument, opened. -/
theorem open_sl {α : Type} {H : Type} {enc' : TypeId × Value → H} {P : Program} {w : World} {base : Nat} {spare : Nat → Bool} {held : Bool} {fuel : Nat} {cs : List Value} {x : DataW H × List MemPlace} {t e : TypeId}
    (ht : P.underlying t = some (.slice e)) (k : Nat) (hk : P.cellsOf e = k) (hk0 : 0 < k) (enc : α → List Value) (hl : ∀ x, (enc x).length = k) (T : α → Prop)
    (each : ∀ n cs' y, DataW.trod enc' P w base spare held n e cs' = some y → cs'.length = k → ∃ x, cs' = enc x ∧ T x)
    (h : DataW.trod enc' P w base spare held fuel t cs = some x) :
    ∃ (v : Value) (l : List α), cs = [v] ∧ SlAt (fun b => b < w.heap.size) k enc w v l ∧ (∀ f ∈ l, T f) ∧ l.length ≤ maxLen := by
  rcases Deep.open_slice ht h with ⟨rfl, _⟩ | ⟨a, len, cap, m, n, D, Pl, rfl, hb, h1, h2, hm, _, hx⟩
  · exact ⟨_, [], rfl, .inl ⟨none, 0, rfl, fun _ => rfl, rfl⟩, by simp, Nat.zero_le _⟩
  · have hlm : len ≤ m := by rw [hm]; split <;> omega
    have one : ∀ i, i < len → ∃ x : α, T x ∧ ∀ j u, (enc x)[j]? = some u → w.cell? (a.add (i * k + j)) = some u := by
      intro i hi
      obtain ⟨cs', e1, e2⟩ := hx i (by omega)
      obtain ⟨_, hlen, hcell⟩ := World.cells?_some e1
      rw [hk] at hlen hcell
      obtain ⟨x, hxe, hT⟩ := each _ _ _ e2 hlen
      refine ⟨x, hT, fun j u hu => ?_⟩
      have hj : j < k := by rw [← hl x]; exact (List.getElem?_eq_some_iff.1 hu).1
      have c := hcell j hj
      rw [hxe, hu, Deep.add_add] at c
      exact c
    obtain ⟨l, hll, hR⟩ := choose_list len one
    refine ⟨_, l, rfl, ?_, ?_, by omega⟩
    · by_cases h0 : len = 0
      · subst h0
        exact .inl ⟨_, _, rfl, (fun h => by cases h), List.eq_nil_of_length_eq_zero hll⟩
      · obtain ⟨b, off, spot⟩ := a
        obtain ⟨x0, hx0⟩ : ∃ x, l[0]? = some x := ⟨_, List.getElem?_eq_getElem (by omega)⟩
        obtain ⟨u0, hu0⟩ : ∃ u, (enc x0)[0]? = some u := ⟨_, List.getElem?_eq_getElem (by rw [hl]; exact hk0)⟩
        have c0 := (hR 0 x0 hx0).2 0 u0 hu0
        have hs : spot = none := by simpa [Addr.add] using World.cell?_spot c0
        subst hs
        refine .inr ⟨b, off, cap, by rw [hll], by simpa [Addr.add] using World.block_lt_of_cell? w _ c0, fun i x hx j u hu => ?_⟩
        have c1 := (hR i x hx).2 j u hu
        rw [Addr.add_lit] at c1
        rw [Nat.add_assoc]
        exact c1
    · intro f hf
      obtain ⟨i, hi, rfl⟩ := List.getElem_of_mem hf
      exact (hR i _ (List.getElem?_eq_getElem hi)).1
theorem block_set {w : World} {b : Nat} {C : Array Value} {t : TypeId} {f : Nat × Nat} (j : Nat) (x : Value) (h : w.heap[b]? = some (.cells C t f)) : (w.setCell ⟨b, j, none⟩ x).heap[b]? = some (.cells (C.setIfInBounds j x) t f) := by
  have hlt := (Array.getElem?_eq_some_iff.1 h).1
  have h' : w.heap[b] = .cells C t f := by simpa [Array.getElem?_eq_getElem hlt] using h
  show (w.heap.modify b _)[b]? = _
  rw [Array.getElem?_eq_getElem (by simpa using hlt), Array.getElem_modify_self, h']
  rfl
theorem block_far {w : World} {b k : Nat} (j : Nat) (x : Value) (hk : k ≠ b) : (w.setCell ⟨b, j, none⟩ x).heap[k]? = w.heap[k]? := Below.heap_setCell _ _ _ k hk
theorem set_size (w : World) (p : Addr) (x : Value) : (w.setCell p x).heap.size = w.heap.size := by simp [World.setCell]
theorem flat_inv {α : Type} (k : Nat) (enc : α → List Value) (hk : ∀ x, (enc x).length = k) : ∀ (l : List α) (j : Nat) (u : Value), (l.flatMap enc)[j]? = some u → ∃ i x m, l[i]? = some x ∧ (enc x)[m]? = some u ∧ j = i * k + m
  | [], j, u, h => by simp at h
  | y :: l, j, u, h => by
    rw [List.flatMap_cons] at h
    by_cases hj : j < k
    · rw [List.getElem?_append_left (by rw [hk]; exact hj)] at h
      exact ⟨0, y, j, rfl, h, by omega⟩
    · rw [List.getElem?_append_right (by rw [hk]; omega), hk] at h
      obtain ⟨i, x, m, h1, h2, h3⟩ := flat_inv k enc hk l (j - k) u h
      exact ⟨i + 1, x, m, by simpa using h1, h2, by rw [Nat.succ_mul]; omega⟩
/-- A slice as a row of cells that is read. -/
theorem SlAt.src {α : Type} {F : Nat → Prop} {k : Nat} {enc : α → List Value} (hk : ∀ x, (enc x).length = k) {w : World} {v : Value} {l : List α} (h : SlAt F k enc w v l) :
    (v = .slice none 0 0 ∧ l = []) ∨ ∃ ad cap, v = .slice (some ad) l.length cap ∧ ∀ j u, (l.flatMap enc)[j]? = some u → w.cell? (ad.add j) = some u := by
  rcases h with ⟨a, c, rfl, hn, rfl⟩ | ⟨b, off, cap, rfl, hb, hc⟩
  · cases a with
    | none => exact .inl ⟨by rw [hn rfl], rfl⟩
    | some ad => exact .inr ⟨ad, c, rfl, by simp⟩
  · refine .inr ⟨_, _, rfl, fun j u hu => ?_⟩
    obtain ⟨i, x, m, h1, h2, rfl⟩ := flat_inv k enc hk l j u hu
    rw [Addr.add_lit, ← Nat.add_assoc]
    exact hc i x h1 m u h2
end Go.Proofs.YtlidlmgmijndcaaGreat.W
