/- Layer 16 as numbers: where the spans of most servers meet. No program in it. -/
import Derived.WalkKit
namespace Go.Proofs.Ytkbjmcgnjhpkiaa.W
open Go.RowKit
set_option linter.unusedVariables false
structure Cd where
  lo : Int
  mid : Int
  hi : Int
def Cd.val (c : Cd) : Value := .agg #[.int .i64 c.lo, .int .i64 c.mid, .int .i64 c.hi]
def cdC (c : Cd) : List Value := [.int .i64 c.lo, .int .i64 c.mid, .int .i64 c.hi]
structure Cd.Typed (c : Cd) : Prop where
  lo : -9223372036854775808 ≤ c.lo ∧ c.lo ≤ 9223372036854775807
  mid : -9223372036854775808 ≤ c.mid ∧ c.mid ≤ 9223372036854775807
  hi : -9223372036854775808 ≤ c.hi ∧ c.hi ≤ 9223372036854775807
def Cd.Ok (c : Cd) : Prop := c.lo ≤ c.mid ∧ c.mid ≤ c.hi
instance (c : Cd) : Decidable c.Ok := by unfold Cd.Ok; exact inferInstance
def inC (x : Int) (c : Cd) : Bool := decide (c.lo ≤ x) && decide (x ≤ c.hi)
theorem inC_iff {x : Int} {c : Cd} : inC x c = true ↔ c.lo ≤ x ∧ x ≤ c.hi := by simp [inC]
/-- In how many spans a number lies. -/
def depN (l : List Cd) (x : Int) : Nat := l.countP (inC x)
def chkC (l : List Cd) : Int := if 10 < l.length ∨ ∃ c ∈ l, ¬ c.Ok then 1 else 0
def midsLo (l : List Cd) (a : Int) : Nat := l.countP fun c => decide (c.mid < a)
def midsHi (l : List Cd) (b : Int) : Nat := l.countP fun c => decide (b < c.mid)
/-- The least, and the greatest, number that so many spans have. -/
def lowO (l : List Cd) (need : Nat) : Option Int := ((l.map Cd.lo).filter fun x => decide (need ≤ depN l x)).min?
def highO (l : List Cd) (need : Nat) : Option Int := ((l.map Cd.hi).filter fun x => decide (need ≤ depN l x)).max?
def meetAt (l : List Cd) (k : Nat) : Option (Int × Int) :=
  match lowO l (l.length - k), highO l (l.length - k) with
  | some a, some b => if midsLo l a + midsHi l b ≤ k ∧ a ≤ b then some (a, b) else none
  | _, _ => none
/-- Where they meet, but for so many. -/
def meetF (l : List Cd) : Option ((Int × Int) × Nat) := (List.range ((l.length + 1) / 2)).findSome? fun k => (meetAt l k).map fun s => (s, k)
def needM (n : Nat) : Nat := n - (n - 1) / 2
def majF (l : List Cd) : Option (Int × Int) :=
  match lowO l (needM l.length), highO l (needM l.length) with
  | some a, some b => some (a, b)
  | _, _ => none
def spanF (l : List Cd) : Option (Int × Int) := match meetF l with
  | some (s, _) => some s
  | none => majF l
def midIn (s : Int × Int) (c : Cd) : Bool := decide (s.1 ≤ c.mid) && decide (c.mid ≤ s.2)
def cutIn (s : Int × Int) (c : Cd) : Bool := decide (c.lo ≤ s.2) && decide (s.1 ≤ c.hi)
/-- The places of those that a test lets pass, in order. -/
def placesOf (f : Cd → Bool) (l : List Cd) : List Nat := (List.range l.length).filter fun i => match l[i]? with
  | some c => f c
  | none => false
def selP (l : List Cd) (s : Int × Int) : List Nat := if placesOf (midIn s) l = [] then placesOf (cutIn s) l else placesOf (midIn s) l
def spLo : Option (Int × Int) → Int
  | some s => s.1
  | none => 0
def spHi : Option (Int × Int) → Int
  | some s => s.2
  | none => 0
def allowI (l : List Cd) : Int := match meetF l with
  | some (_, k) => (k : Int)
  | none => 0
def selL (l : List Cd) : List Nat := match spanF l with
  | some s => selP l s
  | none => []
theorem dep_le (l : List Cd) (x : Int) : depN l x ≤ l.length := List.countP_le_length
theorem dep_pos {l : List Cd} {x : Int} (h : 0 < depN l x) : ∃ c ∈ l, c.lo ≤ x ∧ x ≤ c.hi := by
  obtain ⟨c, hc, hx⟩ := List.countP_pos_iff.1 h
  exact ⟨c, hc, inC_iff.1 hx⟩
theorem max_of : ∀ (l : List Int), l ≠ [] → ∃ m ∈ l, ∀ x ∈ l, x ≤ m
  | [], h => absurd rfl h
  | [a], _ => ⟨a, by simp, by simp⟩
  | a :: b :: r, _ => by
    obtain ⟨m, hm, hx⟩ := max_of (b :: r) (by simp)
    by_cases h : a ≤ m
    · exact ⟨m, List.mem_cons_of_mem _ hm, fun x hx' => by rcases List.mem_cons.1 hx' with rfl | hx'; exact h; exact hx x hx'⟩
    · exact ⟨a, List.mem_cons_self, fun x hx' => by rcases List.mem_cons.1 hx' with rfl | hx'; exact Int.le_refl _; have := hx x hx'; omega⟩
theorem min_of : ∀ (l : List Int), l ≠ [] → ∃ m ∈ l, ∀ x ∈ l, m ≤ x
  | [], h => absurd rfl h
  | [a], _ => ⟨a, by simp, by simp⟩
  | a :: b :: r, _ => by
    obtain ⟨m, hm, hx⟩ := min_of (b :: r) (by simp)
    by_cases h : m ≤ a
    · exact ⟨m, List.mem_cons_of_mem _ hm, fun x hx' => by rcases List.mem_cons.1 hx' with rfl | hx'; exact h; exact hx x hx'⟩
    · exact ⟨a, List.mem_cons_self, fun x hx' => by rcases List.mem_cons.1 hx' with rfl | hx'; exact Int.le_refl _; have := hx x hx'; omega⟩
/-- A number that is in some spans: a Low not above it is in as many. -/
theorem dep_low {l : List Cd} {x : Int} (h : 0 < depN l x) : ∃ c ∈ l, c.lo ≤ x ∧ depN l x ≤ depN l c.lo := by
  obtain ⟨c0, h0, hx0⟩ := dep_pos h
  obtain ⟨m, hm, hmax⟩ := max_of ((l.filter (inC x)).map Cd.lo) (by
    intro e
    have : c0 ∈ l.filter (inC x) := List.mem_filter.2 ⟨h0, inC_iff.2 hx0⟩
    rw [List.map_eq_nil_iff] at e
    rw [e] at this
    cases this)
  obtain ⟨c, hc, rfl⟩ := List.mem_map.1 hm
  obtain ⟨hcl, hcx⟩ := List.mem_filter.1 hc
  refine ⟨c, hcl, (inC_iff.1 hcx).1, List.countP_mono_left fun d hd hdx => ?_⟩
  have g := inC_iff.1 hdx
  have := hmax d.lo (List.mem_map.2 ⟨d, List.mem_filter.2 ⟨hd, hdx⟩, rfl⟩)
  have := (inC_iff.1 hcx).1
  exact inC_iff.2 ⟨by omega, by omega⟩
theorem dep_high {l : List Cd} {x : Int} (h : 0 < depN l x) : ∃ c ∈ l, x ≤ c.hi ∧ depN l x ≤ depN l c.hi := by
  obtain ⟨c0, h0, hx0⟩ := dep_pos h
  obtain ⟨m, hm, hmin⟩ := min_of ((l.filter (inC x)).map Cd.hi) (by
    intro e
    have : c0 ∈ l.filter (inC x) := List.mem_filter.2 ⟨h0, inC_iff.2 hx0⟩
    rw [List.map_eq_nil_iff] at e
    rw [e] at this
    cases this)
  obtain ⟨c, hc, rfl⟩ := List.mem_map.1 hm
  obtain ⟨hcl, hcx⟩ := List.mem_filter.1 hc
  refine ⟨c, hcl, (inC_iff.1 hcx).2, List.countP_mono_left fun d hd hdx => ?_⟩
  have g := inC_iff.1 hdx
  have := hmin d.hi (List.mem_map.2 ⟨d, List.mem_filter.2 ⟨hd, hdx⟩, rfl⟩)
  have := (inC_iff.1 hcx).2
  exact inC_iff.2 ⟨by omega, by omega⟩
theorem low_iff {l : List Cd} {need : Nat} (h0 : 0 < need) (a : Int) : lowO l need = some a ↔ need ≤ depN l a ∧ ∀ x, need ≤ depN l x → a ≤ x := by
  unfold lowO
  rw [List.min?_eq_some_iff]
  constructor
  · rintro ⟨h1, h2⟩
    refine ⟨by simpa using (List.mem_filter.1 h1).2, fun x hx => ?_⟩
    obtain ⟨c, hc, hcx, hd⟩ := dep_low (l := l) (x := x) (by omega)
    have := h2 c.lo (List.mem_filter.2 ⟨List.mem_map.2 ⟨c, hc, rfl⟩, by simp; omega⟩)
    omega
  · rintro ⟨h1, h2⟩
    refine ⟨?_, fun b hb => h2 b (by simpa using (List.mem_filter.1 hb).2)⟩
    obtain ⟨c, hc, hcx, hd⟩ := dep_low (l := l) (x := a) (by omega)
    have : a ≤ c.lo := h2 _ (by omega)
    have e : c.lo = a := by omega
    exact List.mem_filter.2 ⟨List.mem_map.2 ⟨c, hc, e⟩, by simpa using h1⟩
theorem high_iff {l : List Cd} {need : Nat} (h0 : 0 < need) (b : Int) : highO l need = some b ↔ need ≤ depN l b ∧ ∀ x, need ≤ depN l x → x ≤ b := by
  unfold highO
  rw [List.max?_eq_some_iff]
  constructor
  · rintro ⟨h1, h2⟩
    refine ⟨by simpa using (List.mem_filter.1 h1).2, fun x hx => ?_⟩
    obtain ⟨c, hc, hcx, hd⟩ := dep_high (l := l) (x := x) (by omega)
    have := h2 c.hi (List.mem_filter.2 ⟨List.mem_map.2 ⟨c, hc, rfl⟩, by simp; omega⟩)
    omega
  · rintro ⟨h1, h2⟩
    refine ⟨?_, fun b hb => h2 b (by simpa using (List.mem_filter.1 hb).2)⟩
    obtain ⟨c, hc, hcx, hd⟩ := dep_high (l := l) (x := b) (by omega)
    have : c.hi ≤ b := h2 _ (by omega)
    have e : c.hi = b := by omega
    exact List.mem_filter.2 ⟨List.mem_map.2 ⟨c, hc, e⟩, by simpa using h1⟩
theorem low_some {l : List Cd} {need : Nat} (h0 : 0 < need) {x : Int} (hx : need ≤ depN l x) : ∃ a, lowO l need = some a ∧ need ≤ depN l a ∧ ∀ y, need ≤ depN l y → a ≤ y := by
  cases h : lowO l need with
  | some a => exact ⟨a, rfl, (low_iff h0 a).1 h⟩
  | none =>
    unfold lowO at h
    rw [List.min?_eq_none_iff] at h
    obtain ⟨c, hc, _, hd⟩ := dep_low (l := l) (x := x) (by omega)
    have : c.lo ∈ (l.map Cd.lo).filter fun x => decide (need ≤ depN l x) := List.mem_filter.2 ⟨List.mem_map.2 ⟨c, hc, rfl⟩, by simp; omega⟩
    rw [h] at this
    cases this
theorem high_some {l : List Cd} {need : Nat} (h0 : 0 < need) {x : Int} (hx : need ≤ depN l x) : ∃ b, highO l need = some b ∧ need ≤ depN l b ∧ ∀ y, need ≤ depN l y → y ≤ b := by
  cases h : highO l need with
  | some a => exact ⟨a, rfl, (high_iff h0 a).1 h⟩
  | none =>
    unfold highO at h
    rw [List.max?_eq_none_iff] at h
    obtain ⟨c, hc, _, hd⟩ := dep_high (l := l) (x := x) (by omega)
    have : c.hi ∈ (l.map Cd.hi).filter fun x => decide (need ≤ depN l x) := List.mem_filter.2 ⟨List.mem_map.2 ⟨c, hc, rfl⟩, by simp; omega⟩
    rw [h] at this
    cases this
theorem need_most {n d : Nat} (h : n < 2 * d) : needM n ≤ d := by unfold needM; omega
theorem need_pos {n : Nat} (h : 0 < n) : 0 < needM n := by unfold needM; omega
theorem most_need {n d : Nat} (h0 : 0 < n) (h : needM n ≤ d) : n < 2 * d := by unfold needM at h; omega
/-- What is told of most. -/
theorem maj_some {l : List Cd} {x : Int} (h : l.length < 2 * depN l x) : ∃ a b, majF l = some (a, b) ∧ a ≤ x ∧ x ≤ b := by
  have hn : 0 < needM l.length := need_pos (by have := dep_le l x; omega)
  obtain ⟨a, ha, _, h1⟩ := low_some hn (need_most h)
  obtain ⟨b, hb, _, h2⟩ := high_some hn (need_most h)
  exact ⟨a, b, by unfold majF; rw [ha, hb], h1 x (need_most h), h2 x (need_most h)⟩
theorem maj_is {l : List Cd} {a b : Int} (h : majF l = some (a, b)) : 0 < l.length ∧ needM l.length ≤ depN l a ∧ needM l.length ≤ depN l b ∧ a ≤ b ∧ ∀ x, needM l.length ≤ depN l x → a ≤ x ∧ x ≤ b := by
  have hn : 0 < l.length := by
    rcases Nat.eq_zero_or_pos l.length with e | e
    · have : l = [] := List.eq_nil_of_length_eq_zero e
      subst this
      simp [majF, lowO, List.min?] at h
    · exact e
  have hp := need_pos hn
  unfold majF at h
  cases ha : lowO l (needM l.length) with
  | none => rw [ha] at h; cases h
  | some a' =>
    cases hb : highO l (needM l.length) with
    | none => rw [ha, hb] at h; cases h
    | some b' =>
      rw [ha, hb] at h
      obtain ⟨rfl, rfl⟩ : a' = a ∧ b' = b := by simpa using h
      obtain ⟨g1, g2⟩ := (low_iff hp a').1 ha
      obtain ⟨g3, g4⟩ := (high_iff hp b').1 hb
      exact ⟨hn, g1, g3, g2 _ g3, fun x hx => ⟨g2 x hx, g4 x hx⟩⟩
theorem meet_at {l : List Cd} {k : Nat} {a b : Int} (hk : 2 * k < l.length) : meetAt l k = some (a, b) ↔ (l.length - k ≤ depN l a ∧ (∀ x, l.length - k ≤ depN l x → a ≤ x)) ∧ (l.length - k ≤ depN l b ∧ (∀ x, l.length - k ≤ depN l x → x ≤ b)) ∧ midsLo l a + midsHi l b ≤ k := by
  have hp : 0 < l.length - k := by omega
  rw [← low_iff hp, ← high_iff hp]
  unfold meetAt
  constructor
  · intro h
    cases ha : lowO l (l.length - k) with
    | none => rw [ha] at h; cases h
    | some a' =>
      cases hb : highO l (l.length - k) with
      | none => rw [ha, hb] at h; cases h
      | some b' =>
        rw [ha, hb] at h
        simp only [] at h
        split at h
        · rename_i g
          obtain ⟨rfl, rfl⟩ : a' = a ∧ b' = b := by simpa using h
          exact ⟨rfl, rfl, g.1⟩
        · cases h
  · rintro ⟨ha, hb, hm⟩
    rw [ha, hb]
    have g1 := (low_iff hp a).1 ha
    have g2 := (high_iff hp b).1 hb
    show (if midsLo l a + midsHi l b ≤ k ∧ a ≤ b then some (a, b) else none) = some (a, b)
    exact if_pos ⟨hm, g1.2 _ g2.1⟩
/-- What is told of all but some. -/
theorem meet_is {l : List Cd} {a b : Int} {k : Nat} (h : meetF l = some ((a, b), k)) : 2 * k < l.length ∧ a ≤ b ∧ l.length - k ≤ depN l a ∧ l.length - k ≤ depN l b := by
  unfold meetF at h
  obtain ⟨j, hj, hm⟩ := List.exists_of_findSome?_eq_some h
  rw [List.mem_range] at hj
  rw [Option.map_eq_some_iff] at hm
  obtain ⟨s, hs, e⟩ := hm
  obtain ⟨rfl, rfl⟩ : s = (a, b) ∧ j = k := by simpa using e
  have hk : 2 * j < l.length := by omega
  obtain ⟨g1, g2, _⟩ := (meet_at hk).1 hs
  exact ⟨hk, g1.2 _ g2.1, g1.1, g2.1⟩
theorem meet_maj {l : List Cd} {a b : Int} {k : Nat} (h : meetF l = some ((a, b), k)) : ∃ c d, majF l = some (c, d) ∧ c ≤ a ∧ b ≤ d := by
  obtain ⟨h1, h2, h3, h4⟩ := meet_is h
  obtain ⟨c, d, hm, _, _⟩ := maj_some (l := l) (x := a) (by omega)
  have := (maj_is hm).2.2.2.2
  exact ⟨c, d, hm, (this a (need_most (by omega))).1, (this b (need_most (by omega))).2⟩
theorem low_mem {l : List Cd} {need : Nat} {a : Int} (h : lowO l need = some a) : ∃ c ∈ l, c.lo = a := by
  unfold lowO at h
  have := (List.min?_eq_some_iff.1 h).1
  obtain ⟨c, hc, e⟩ := List.mem_map.1 (List.mem_filter.1 this).1
  exact ⟨c, hc, e⟩
theorem high_mem {l : List Cd} {need : Nat} {a : Int} (h : highO l need = some a) : ∃ c ∈ l, c.hi = a := by
  unfold highO at h
  have := (List.max?_eq_some_iff.1 h).1
  obtain ⟨c, hc, e⟩ := List.mem_map.1 (List.mem_filter.1 this).1
  exact ⟨c, hc, e⟩
def InI (x : Int) : Prop := -9223372036854775808 ≤ x ∧ x ≤ 9223372036854775807
theorem maj_bounds {l : List Cd} (tl : ∀ c ∈ l, c.Typed) {a b : Int} (h : majF l = some (a, b)) : InI a ∧ InI b := by
  unfold majF at h
  cases ha : lowO l (needM l.length) with
  | none => rw [ha] at h; cases h
  | some a' =>
    cases hb : highO l (needM l.length) with
    | none => rw [ha, hb] at h; cases h
    | some b' =>
      rw [ha, hb] at h
      obtain ⟨rfl, rfl⟩ : a' = a ∧ b' = b := by simpa using h
      obtain ⟨c, hc, rfl⟩ := low_mem ha
      obtain ⟨d, hd, rfl⟩ := high_mem hb
      exact ⟨(tl c hc).lo, (tl d hd).hi⟩
theorem meet_bounds {l : List Cd} (tl : ∀ c ∈ l, c.Typed) {a b : Int} {k : Nat} (h : meetF l = some ((a, b), k)) : InI a ∧ InI b := by
  unfold meetF at h
  obtain ⟨j, hj, hm⟩ := List.exists_of_findSome?_eq_some h
  rw [Option.map_eq_some_iff] at hm
  obtain ⟨s, hs, e⟩ := hm
  obtain ⟨rfl, rfl⟩ : s = (a, b) ∧ j = k := by simpa using e
  unfold meetAt at hs
  cases ha : lowO l (l.length - j) with
  | none => rw [ha] at hs; cases hs
  | some a' =>
    cases hb : highO l (l.length - j) with
    | none => rw [ha, hb] at hs; cases hs
    | some b' =>
      rw [ha, hb] at hs
      simp only [] at hs
      split at hs
      · obtain ⟨rfl, rfl⟩ : a' = a ∧ b' = b := by simpa using hs
        obtain ⟨c, hc, rfl⟩ := low_mem ha
        obtain ⟨d, hd, rfl⟩ := high_mem hb
        exact ⟨(tl c hc).lo, (tl d hd).hi⟩
      · cases hs
theorem places_mem {f : Cd → Bool} {l : List Cd} {i : Nat} : i ∈ placesOf f l ↔ ∃ c, l[i]? = some c ∧ f c = true := by
  unfold placesOf
  rw [List.mem_filter, List.mem_range]
  constructor
  · rintro ⟨h1, h2⟩
    cases h : l[i]? with
    | none => rw [h] at h2; cases h2
    | some c => rw [h] at h2; exact ⟨c, rfl, h2⟩
  · rintro ⟨c, h1, h2⟩
    exact ⟨(List.getElem?_eq_some_iff.1 h1).1, by rw [h1]; exact h2⟩
theorem places_up (f : Cd → Bool) (l : List Cd) : (placesOf f l).Pairwise (· < ·) := List.Pairwise.filter _ List.pairwise_lt_range
theorem span_some {l : List Cd} {a b : Int} (h : majF l = some (a, b)) : ∃ s, spanF l = some s ∧ s.1 ≤ s.2 ∧ 0 < depN l s.1 := by
  unfold spanF
  cases hm : meetF l with
  | none =>
    obtain ⟨h0, h1, _, h3, _⟩ := maj_is h
    exact ⟨(a, b), h, h3, by have := need_pos h0; show 0 < depN l a; omega⟩
  | some r =>
    obtain ⟨⟨x, y⟩, k⟩ := r
    obtain ⟨h1, h2, h3, _⟩ := meet_is hm
    exact ⟨(x, y), rfl, h2, by show 0 < depN l x; omega⟩
theorem span_maj {l : List Cd} : (spanF l).isSome = (majF l).isSome := by
  unfold spanF
  cases hm : meetF l with
  | none => rfl
  | some r =>
    obtain ⟨⟨x, y⟩, k⟩ := r
    obtain ⟨c, d, h, _⟩ := meet_maj hm
    rw [h]
    rfl
/-- Something is selected. -/
theorem sel_some {l : List Cd} {s : Int × Int} (h1 : s.1 ≤ s.2) (h2 : 0 < depN l s.1) : 0 < (selP l s).length := by
  unfold selP
  split
  · obtain ⟨c, hc, g1, g2⟩ := dep_pos h2
    obtain ⟨i, hi⟩ := List.getElem?_of_mem hc
    have : i ∈ placesOf (cutIn s) l := places_mem.2 ⟨c, hi, by simp [cutIn]; omega⟩
    exact List.length_pos_of_mem this
  · rename_i h
    exact List.length_pos_iff.2 h
theorem sel_in {l : List Cd} (ok : ∀ c ∈ l, c.Ok) {s : Int × Int} {i : Nat} (hi : i ∈ selP l s) : ∃ c, l[i]? = some c ∧ c.lo ≤ s.2 ∧ s.1 ≤ c.hi := by
  unfold selP at hi
  split at hi
  · obtain ⟨c, h1, h2⟩ := places_mem.1 hi
    simp [cutIn] at h2
    exact ⟨c, h1, h2⟩
  · obtain ⟨c, h1, h2⟩ := places_mem.1 hi
    simp [midIn] at h2
    have := ok c (List.mem_of_getElem? h1)
    unfold Cd.Ok at this
    exact ⟨c, h1, by omega, by omega⟩
theorem sel_length (l : List Cd) (s : Int × Int) : (selP l s).length ≤ l.length := by
  have h : ∀ f, (placesOf f l).length ≤ l.length := fun f => by
    unfold placesOf
    exact Nat.le_trans (List.length_filter_le _ _) (by rw [List.length_range]; exact Nat.le_refl _)
  unfold selP
  split <;> exact h _
theorem sel_up (l : List Cd) (s : Int × Int) : (selP l s).Pairwise (· < ·) := by
  unfold selP
  split
  · exact places_up _ _
  · exact places_up _ _
theorem sel_beside {l : List Cd} {s : Int × Int} {i a b : Nat} (ha : (selP l s)[i]? = some a) (hb : (selP l s)[i + 1]? = some b) : a < b := by
  obtain ⟨h1, rfl⟩ := List.getElem?_eq_some_iff.1 ha
  obtain ⟨h2, rfl⟩ := List.getElem?_eq_some_iff.1 hb
  exact List.pairwise_iff_getElem.1 (sel_up l s) i (i + 1) h1 h2 (by omega)
theorem findSome_congr {α β : Type} {f g : α → Option β} : ∀ {l : List α}, (∀ x ∈ l, f x = g x) → l.findSome? f = l.findSome? g
  | [], _ => rfl
  | x :: l, h => by
    rw [List.findSome?_cons, List.findSome?_cons, h x List.mem_cons_self, findSome_congr fun y hy => h y (List.mem_cons_of_mem _ hy)]
/-- In whatever order they are. -/
theorem dep_perm {l m : List Cd} (h : l.Perm m) (x : Int) : depN l x = depN m x := h.countP_eq _
theorem low_perm {l m : List Cd} (h : l.Perm m) (need : Nat) (h0 : 0 < need) : lowO l need = lowO m need := by
  refine Option.ext fun a => ?_
  rw [low_iff h0, low_iff h0]
  simp only [dep_perm h]
theorem high_perm {l m : List Cd} (h : l.Perm m) (need : Nat) (h0 : 0 < need) : highO l need = highO m need := by
  refine Option.ext fun a => ?_
  rw [high_iff h0, high_iff h0]
  simp only [dep_perm h]
theorem maj_perm {l m : List Cd} (h : l.Perm m) : majF l = majF m := by
  rcases Nat.eq_zero_or_pos l.length with e | e
  · have e1 : l = [] := List.eq_nil_of_length_eq_zero e
    have e2 : m = [] := List.eq_nil_of_length_eq_zero (by rw [← h.length_eq]; exact e)
    rw [e1, e2]
  · unfold majF
    rw [← h.length_eq, low_perm h _ (need_pos e), high_perm h _ (need_pos e)]
theorem meet_perm {l m : List Cd} (h : l.Perm m) : meetF l = meetF m := by
  unfold meetF
  rw [← h.length_eq]
  refine findSome_congr fun k hk => ?_
  rw [List.mem_range] at hk
  congr 1
  unfold meetAt
  rw [← h.length_eq, low_perm h _ (by omega), high_perm h _ (by omega)]
  have e1 : ∀ a, midsLo l a = midsLo m a := fun a => h.countP_eq _
  have e2 : ∀ a, midsHi l a = midsHi m a := fun a => h.countP_eq _
  simp only [e1, e2]
/-- A span that gets wider. -/
theorem maj_wide {l m : List Cd} (hl : l.length = m.length) (hd : ∀ x, depN l x ≤ depN m x) {a b : Int} (h : majF l = some (a, b)) : ∃ c d, majF m = some (c, d) ∧ c ≤ a ∧ b ≤ d := by
  obtain ⟨h0, h1, h2, h3, _⟩ := maj_is h
  have g1 := hd a
  have g2 := hd b
  have ha : m.length < 2 * depN m a := by have := most_need h0 h1; omega
  obtain ⟨c, d, hm, _, _⟩ := maj_some ha
  have := (maj_is hm).2.2.2.2
  rw [← hl] at this
  exact ⟨c, d, hm, (this a (by omega)).1, (this b (by omega)).2⟩
theorem dep_set {l : List Cd} {i : Nat} {c d : Cd} (hi : l[i]? = some c) (h1 : d.lo ≤ c.lo) (h2 : c.hi ≤ d.hi) (x : Int) : depN l x ≤ depN (l.set i d) x := by
  unfold depN
  induction l generalizing i with
  | nil => simp at hi
  | cons y l ih =>
    cases i with
    | zero =>
      obtain rfl : y = c := by simpa using hi
      simp only [List.set_cons_zero, List.countP_cons]
      have : (inC x y = true) → inC x d = true := fun g => by have := inC_iff.1 g; exact inC_iff.2 ⟨by omega, by omega⟩
      split <;> split <;> simp_all
    | succ i =>
      simp only [List.set_cons_succ, List.countP_cons]
      have := ih (i := i) (by simpa using hi)
      omega
/-- The first q of a list that is turned by k. -/
def rotT (l : List Cd) (k q : Nat) : List Cd := (List.range q).map fun i => l.getD ((i + k) % l.length) ⟨0, 0, 0⟩
theorem rot_length (l : List Cd) (k q : Nat) : (rotT l k q).length = q := by simp [rotT]
theorem rot_step {l : List Cd} {k q : Nat} {c : Cd} (h : l[(q + k) % l.length]? = some c) : rotT l k (q + 1) = rotT l k q ++ [c] := by
  unfold rotT
  rw [List.range_succ, List.map_append]
  simp [List.getD, h]
theorem rot_mod {i k n : Nat} (hi : i < n) : (i + k) % n = if i + k % n < n then i + k % n else i + k % n - n := by
  have hr := Nat.mod_lt k (show 0 < n by omega)
  rw [Nat.add_mod, Nat.mod_eq_of_lt hi]
  split
  · rename_i h
    exact Nat.mod_eq_of_lt h
  · rename_i h
    rw [Nat.mod_eq_sub_mod (by omega), Nat.mod_eq_of_lt (by omega)]
theorem rot_perm (l : List Cd) (k : Nat) : (rotT l k l.length).Perm l := by
  rcases Nat.eq_zero_or_pos l.length with e | e
  · have : l = [] := List.eq_nil_of_length_eq_zero e
    subst this
    exact List.Perm.refl _
  · have h : rotT l k l.length = l.drop (k % l.length) ++ l.take (k % l.length) := by
      have hr := Nat.mod_lt k e
      refine List.ext_getElem? fun i => ?_
      by_cases hi : i < l.length
      · have h1 : (rotT l k l.length)[i]? = some (l.getD ((i + k) % l.length) ⟨0, 0, 0⟩) := by
          unfold rotT
          rw [List.getElem?_map, List.getElem?_range hi]
          rfl
        rw [h1, rot_mod hi]
        split
        · rename_i g
          rw [List.getElem?_append_left (by rw [List.length_drop]; omega), List.getElem?_drop, Nat.add_comm]
          simp [List.getD, g, Nat.add_comm]
        · rename_i g
          rw [List.getElem?_append_right (by rw [List.length_drop]; omega), List.length_drop, List.getElem?_take, if_pos (by omega)]
          rw [show i - (l.length - k % l.length) = i + k % l.length - l.length by omega]
          have : i + k % l.length - l.length < l.length := by omega
          simp [List.getD, this]
      · rw [List.getElem?_eq_none (by rw [rot_length]; omega), List.getElem?_eq_none (by rw [List.length_append, List.length_drop, List.length_take]; omega)]
    rw [h]
    exact (List.perm_append_comm).trans (by rw [List.take_append_drop])
theorem chk_perm {l m : List Cd} (h : l.Perm m) : chkC l = chkC m := by
  unfold chkC
  rw [h.length_eq]
  have : (∃ c ∈ l, ¬ c.Ok) ↔ (∃ c ∈ m, ¬ c.Ok) := ⟨fun ⟨c, hc, g⟩ => ⟨c, h.mem_iff.1 hc, g⟩, fun ⟨c, hc, g⟩ => ⟨c, h.mem_iff.2 hc, g⟩⟩
  simp only [this]
theorem allow_perm {l m : List Cd} (h : l.Perm m) : allowI l = allowI m := by unfold allowI; rw [meet_perm h]
/-- Where at most one is at a time. -/
theorem apart_none {l : List Cd} (h1 : ∀ x, depN l x ≤ 1) (h2 : l.length ≠ 1) : meetF l = none ∧ majF l = none := by
  constructor
  · cases hm : meetF l with
    | none => rfl
    | some r =>
      obtain ⟨⟨a, b⟩, k⟩ := r
      obtain ⟨g1, _, g3, _⟩ := meet_is hm
      have := h1 a
      omega
  · cases hm : majF l with
    | none => rfl
    | some r =>
      obtain ⟨a, b⟩ := r
      obtain ⟨g0, g1, _⟩ := maj_is hm
      have := most_need g0 g1
      have := h1 a
      omega
/-- Where all have some numbers. -/
theorem meet_all {l : List Cd} {a b : Int} (h0 : l ≠ []) (ha : depN l a = l.length ∧ ∀ x, depN l x = l.length → a ≤ x) (hb : depN l b = l.length ∧ ∀ x, depN l x = l.length → x ≤ b) (hm : ∀ c ∈ l, a ≤ c.mid ∧ c.mid ≤ b) : meetF l = some ((a, b), 0) ∧ selP l (a, b) = List.range l.length := by
  have hn : 0 < l.length := List.length_pos_iff.2 h0
  have full : ∀ x, l.length - 0 ≤ depN l x → depN l x = l.length := fun x hx => by have := dep_le l x; omega
  have m0 : meetAt l 0 = some (a, b) := by
    refine (meet_at (by omega)).2 ⟨⟨by omega, fun x hx => ha.2 x (full x hx)⟩, ⟨by omega, fun x hx => hb.2 x (full x hx)⟩, ?_⟩
    have e1 : midsLo l a = 0 := List.countP_eq_zero.2 fun c hc => by have := hm c hc; simp; omega
    have e2 : midsHi l b = 0 := List.countP_eq_zero.2 fun c hc => by have := hm c hc; simp; omega
    omega
  constructor
  · unfold meetF
    obtain ⟨r, hr⟩ : ∃ r, (l.length + 1) / 2 = r + 1 := ⟨(l.length + 1) / 2 - 1, by omega⟩
    rw [hr, List.range_succ_eq_map, List.findSome?_cons, m0]
    rfl
  · have e : placesOf (midIn (a, b)) l = List.range l.length := by
      unfold placesOf
      refine List.filter_eq_self.2 fun i hi => ?_
      rw [List.mem_range] at hi
      rw [List.getElem?_eq_getElem hi]
      have := hm l[i] (List.getElem_mem hi)
      simp [midIn]
      omega
    unfold selP
    rw [e, if_neg]
    intro e'
    have h9 : (List.range l.length).length = 0 := by rw [e']; rfl
    rw [List.length_range] at h9
    omega
/-- Spans beside each other. -/
def apC (wd : Int) (i : Nat) : Cd := ⟨i * (wd + 1), i * (wd + 1), i * (wd + 1) + wd⟩
def apL (wd : Int) (n : Nat) : List Cd := (List.range n).map (apC wd)
theorem ap_length (wd : Int) (n : Nat) : (apL wd n).length = n := by simp [apL]
theorem ap_step (wd : Int) (n : Nat) : apL wd (n + 1) = apL wd n ++ [apC wd n] := by
  unfold apL
  rw [List.range_succ, List.map_append]
  rfl
theorem ap_mem {wd : Int} {n : Nat} {c : Cd} (h : c ∈ apL wd n) : ∃ i, i < n ∧ c = apC wd i := by
  unfold apL at h
  obtain ⟨i, hi, rfl⟩ := List.mem_map.1 h
  exact ⟨i, List.mem_range.1 hi, rfl⟩
theorem ap_top {wd : Int} (h0 : 0 ≤ wd) : ∀ (n : Nat) (x : Int), (n : Int) * (wd + 1) ≤ x → depN (apL wd n) x = 0
  | 0, x, _ => rfl
  | n + 1, x, h => by
    have e : ((n + 1 : Nat) : Int) * (wd + 1) = (n : Int) * (wd + 1) + (wd + 1) := by rw [Int.natCast_add, Int.add_mul]; simp
    rw [e] at h
    rw [ap_step]
    unfold depN
    rw [List.countP_append]
    have h1 : depN (apL wd n) x = 0 := ap_top h0 n x (by omega)
    unfold depN at h1
    rw [h1]
    have : inC x (apC wd n) = false := by
      unfold inC apC
      simp
      omega
    simp [this]
theorem ap_one {wd : Int} (h0 : 0 ≤ wd) : ∀ (n : Nat) (x : Int), depN (apL wd n) x ≤ 1
  | 0, x => Nat.zero_le _
  | n + 1, x => by
    rw [ap_step]
    unfold depN
    rw [List.countP_append]
    have h1 := ap_one h0 n x
    by_cases h : inC x (apC wd n) = true
    · have g := (inC_iff.1 h).1
      have h2 := ap_top h0 n x g
      unfold depN at h2
      rw [h2]
      simp [h]
    · unfold depN at h1
      simp [h]
      exact h1
theorem ap_none {wd : Int} (h0 : 0 ≤ wd) {n : Nat} (h : n ≠ 1) : meetF (apL wd n) = none ∧ majF (apL wd n) = none := apart_none (ap_one h0 n) (by rw [ap_length]; exact h)
theorem ap_dep1 {wd : Int} (x : Int) : depN (apL wd 1) x = if 0 ≤ x ∧ x ≤ wd then 1 else 0 := by
  have e : apL wd 1 = [⟨0, 0, wd⟩] := by simp [apL, apC]
  rw [e]
  unfold depN
  by_cases h : 0 ≤ x ∧ x ≤ wd
  · rw [if_pos h]
    simp [inC, h.1, h.2]
  · rw [if_neg h]
    have : inC x ⟨0, 0, wd⟩ = false := by
      unfold inC
      simp
      intro g
      omega
    simp [this]
theorem ap_meet {wd : Int} (h0 : 0 ≤ wd) : meetF (apL wd 1) = some ((0, wd), 0) ∧ majF (apL wd 1) = some (0, wd) ∧ selL (apL wd 1) = [0] := by
  have hl := ap_length wd 1
  have d0 : depN (apL wd 1) 0 = 1 := by rw [ap_dep1, if_pos ⟨by omega, h0⟩]
  have dw : depN (apL wd 1) wd = 1 := by rw [ap_dep1, if_pos ⟨h0, by omega⟩]
  have lim : ∀ x, 1 ≤ depN (apL wd 1) x → 0 ≤ x ∧ x ≤ wd := fun x hx => by
    rw [ap_dep1] at hx
    split at hx
    · assumption
    · omega
  obtain ⟨g1, g2⟩ := meet_all (l := apL wd 1) (a := 0) (b := wd) (by intro e; rw [e] at hl; cases hl) ⟨by rw [d0, hl], fun x hx => (lim x (by rw [hx, hl]; exact Nat.le_refl _)).1⟩ ⟨by rw [dw, hl], fun x hx => (lim x (by rw [hx, hl]; exact Nat.le_refl _)).2⟩ (fun c hc => by
    obtain ⟨i, hi, rfl⟩ := ap_mem hc
    have : i = 0 := by omega
    subst this
    simp [apC]
    exact h0)
  refine ⟨g1, ?_, ?_⟩
  · obtain ⟨a, b, hm, ha, hb⟩ := maj_some (l := apL wd 1) (x := 0) (by rw [hl, d0]; omega)
    obtain ⟨_, e1, e2, e3, e4⟩ := maj_is hm
    rw [hl] at e1 e2 e4
    have n1 : needM 1 = 1 := rfl
    rw [n1] at e1 e2 e4
    have q1 := lim a e1
    have q2 := lim b e2
    have q3 := e4 wd (by rw [dw]; exact Nat.le_refl _)
    rw [hm]
    have : a = 0 := by omega
    have : b = wd := by omega
    simp [*]
  · unfold selL spanF
    rw [g1]
    rw [hl] at g2
    exact g2
theorem ap_chk {wd : Int} (h0 : 0 ≤ wd) {n : Nat} (h : n ≤ 10) : chkC (apL wd n) = 0 := by
  unfold chkC
  rw [if_neg]
  rintro (g | ⟨c, hc, g⟩)
  · rw [ap_length] at g
    omega
  · obtain ⟨i, _, rfl⟩ := ap_mem hc
    exact g ⟨by show (i : Int) * (wd + 1) ≤ (i : Int) * (wd + 1); omega, by show (i : Int) * (wd + 1) ≤ (i : Int) * (wd + 1) + wd; omega⟩
/-- Spans around one number. -/
def alC (at_ b : Int) : Cd := ⟨at_ - b, at_, at_ + b⟩
def alL (at_ : Int) (z : List Int) : List Cd := z.map (alC at_)
def narI (z : List Int) : Int := z.foldl min 1099511627776
theorem al_snoc (at_ : Int) (z : List Int) (b : Int) : alL at_ (z ++ [b]) = alL at_ z ++ [alC at_ b] := by simp [alL]
theorem al_length (at_ : Int) (z : List Int) : (alL at_ z).length = z.length := by simp [alL]
theorem nar_snoc (z : List Int) (b : Int) : narI (z ++ [b]) = min (narI z) b := by simp [narI]
theorem fold_le : ∀ (z : List Int) (s : Int), z.foldl min s ≤ s ∧ ∀ b ∈ z, z.foldl min s ≤ b
  | [], s => ⟨Int.le_refl _, by simp⟩
  | x :: z, s => by
    obtain ⟨h1, h2⟩ := fold_le z (min s x)
    rw [List.foldl_cons]
    refine ⟨by omega, fun b hb => ?_⟩
    rcases List.mem_cons.1 hb with rfl | hb
    · omega
    · exact h2 b hb
theorem fold_in : ∀ (z : List Int) (s : Int), z.foldl min s = s ∨ z.foldl min s ∈ z
  | [], s => .inl rfl
  | x :: z, s => by
    rw [List.foldl_cons]
    rcases fold_in z (min s x) with h | h
    · rw [h]
      by_cases g : s ≤ x
      · left; omega
      · right
        have : min s x = x := by omega
        rw [this]
        exact List.mem_cons_self
    · exact .inr (List.mem_cons_of_mem _ h)
theorem nar_is {z : List Int} (hb : ∀ b ∈ z, 0 ≤ b ∧ b ≤ 65535) (h0 : z ≠ []) : narI z ∈ z ∧ ∀ b ∈ z, narI z ≤ b := by
  have h2 := (fold_le z 1099511627776).2
  refine ⟨?_, h2⟩
  rcases fold_in z 1099511627776 with h | h
  · obtain ⟨b, hz⟩ := List.exists_mem_of_ne_nil z h0
    have := h2 b hz
    have := hb b hz
    omega
  · exact h
theorem nar_range {z : List Int} (hb : ∀ b ∈ z, 0 ≤ b ∧ b ≤ 65535) : 0 ≤ narI z ∧ narI z ≤ 1099511627776 := by
  have h1 := (fold_le z 1099511627776).1
  rcases fold_in z 1099511627776 with h | h
  · unfold narI; omega
  · have := hb _ h
    unfold narI; omega
theorem al_full {at_ : Int} {z : List Int} (x : Int) : depN (alL at_ z) x = (alL at_ z).length ↔ ∀ b ∈ z, at_ - b ≤ x ∧ x ≤ at_ + b := by
  unfold depN
  rw [List.countP_eq_length]
  unfold alL
  constructor
  · intro h b hb
    exact inC_iff.1 (h _ (List.mem_map.2 ⟨b, hb, rfl⟩))
  · intro h c hc
    obtain ⟨b, hb, rfl⟩ := List.mem_map.1 hc
    exact inC_iff.2 (h b hb)
theorem al_meet {at_ : Int} {z : List Int} (hb : ∀ b ∈ z, 0 ≤ b ∧ b ≤ 65535) (h0 : z ≠ []) : meetF (alL at_ z) = some ((at_ - narI z, at_ + narI z), 0) ∧ selL (alL at_ z) = List.range z.length := by
  obtain ⟨n1, n2⟩ := nar_is hb h0
  have n0 := (hb _ n1).1
  obtain ⟨g1, g2⟩ := meet_all (l := alL at_ z) (a := at_ - narI z) (b := at_ + narI z) (by
    intro e
    have := al_length at_ z
    rw [e] at this
    exact h0 (List.eq_nil_of_length_eq_zero this.symm)) ⟨(al_full _).2 fun b hz => by have := n2 b hz; omega, fun x hx => ((al_full x).1 hx _ n1).1⟩ ⟨(al_full _).2 fun b hz => by have := n2 b hz; omega, fun x hx => ((al_full x).1 hx _ n1).2⟩ (fun c hc => by
    obtain ⟨b, _, rfl⟩ := List.mem_map.1 hc
    show at_ - narI z ≤ at_ ∧ at_ ≤ at_ + narI z
    omega)
  refine ⟨g1, ?_⟩
  unfold selL spanF
  rw [g1]
  rw [al_length] at g2
  exact g2
theorem al_chk {at_ : Int} {z : List Int} (hb : ∀ b ∈ z, 0 ≤ b ∧ b ≤ 65535) (h : z.length ≤ 10) : chkC (alL at_ z) = 0 := by
  unfold chkC
  rw [if_neg]
  rintro (g | ⟨c, hc, g⟩)
  · rw [al_length] at g
    omega
  · obtain ⟨b, hz, rfl⟩ := List.mem_map.1 hc
    have := hb b hz
    exact g ⟨by show at_ - b ≤ at_; omega, by show at_ ≤ at_ + b; omega⟩
end Go.Proofs.Ytkbjmcgnjhpkiaa.W
