/- Layer 17 as numbers: which of those that may be right are kept. No program in it. -/
import Derived.Test.YtefjdmbioclddaaFdefs
namespace Go.Proofs.Ytefjdmbioclddaa.W
open Go.RowKit
set_option linter.unusedVariables false
structure Nd where
  off : Int
  jit : Int
  met : Int
def Nd.val (c : Nd) : Value := .agg #[.int .i64 c.off, .int .i64 c.jit, .int .i64 c.met]
def ndC (c : Nd) : List Value := [.int .i64 c.off, .int .i64 c.jit, .int .i64 c.met]
structure Nd.Typed (c : Nd) : Prop where
  off : -9223372036854775808 ≤ c.off ∧ c.off ≤ 9223372036854775807
  jit : -9223372036854775808 ≤ c.jit ∧ c.jit ≤ 9223372036854775807
  met : -9223372036854775808 ≤ c.met ∧ c.met ≤ 9223372036854775807
def Nd.zero : Nd := ⟨0, 0, 0⟩
/-- Where a node is, what its jitter is, its metric, by its place. -/
def offN (l : List Nd) (i : Nat) : Int := (l.getD i Nd.zero).off
def jitN (l : List Nd) (i : Nat) : Int := (l.getD i Nd.zero).jit
def metNd (l : List Nd) (i : Nat) : Int := (l.getD i Nd.zero).met
/-- The differences from a node to the others, in order. -/
def difN (l : List Nd) (i : Nat) : List Int := ((List.range l.length).filter fun k => decide (k ≠ i)).map fun k => subI (offN l i) (offN l k)
def aptN (l : List Nd) (i : Nat) : Int := rmsI (difN l i)
def apartI (l : List Nd) (i : Int) : Int := if i < 0 ∨ (l.length : Int) ≤ i then 0 else aptN l i.toNat
/-- The worst one of the first n. -/
def wstP (l : List Nd) : Nat → Nat × Int
  | 0 => (0, 0)
  | n + 1 => if n = 0 ∨ (wstP l n).2 < aptN l n ∨ aptN l n = (wstP l n).2 ∧ metNd l (wstP l n).1 ≤ metNd l n then (n, aptN l n) else wstP l n
def worstP (l : List Nd) : Nat × Int := wstP l l.length
def nowL (l : List Nd) (kept : List Nat) : List Nd := kept.map fun i => l.getD i Nd.zero
def quietI (l : List Nd) : Int := (l.map Nd.jit).foldl min (jitN l 0)
/-- One of a list, gone. -/
def goneL (kept : List Nat) (at_ : Nat) : List Nat := kept.eraseIdx at_
def prnP (l : List Nd) (least : Int) : Nat → List Nat → List Nat × Int
  | 0, kept => (kept, (worstP (nowL l kept)).2)
  | f + 1, kept =>
    if (kept.length : Int) ≤ max least 1 then (kept, (worstP (nowL l kept)).2)
    else if (worstP (nowL l kept)).2 < quietI (nowL l kept) then (kept, (worstP (nowL l kept)).2)
    else prnP l least f (goneL kept (worstP (nowL l kept)).1)
def prune (l : List Nd) (least : Int) : List Nat × Int := prnP l least l.length (List.range l.length)
def lowN (l : List Nd) : Int := (l.map Nd.off).foldl min (offN l 0)
def highN (l : List Nd) : Int := (l.map Nd.off).foldl max (offN l 0)
def spreadI (l : List Nd) : Int := if l = [] then 0 else subI (highN l) (lowN l)
theorem apt_nonneg (l : List Nd) (i : Nat) : 0 ≤ aptN l i := rootI_nonneg _
theorem wst_lt (l : List Nd) : ∀ n, 0 < n → (wstP l n).1 < n ∧ (wstP l n).2 = aptN l (wstP l n).1
  | 0, h => absurd h (Nat.lt_irrefl _)
  | n + 1, _ => by
    unfold wstP
    split
    · exact ⟨Nat.lt_succ_self _, rfl⟩
    · rename_i h
      have hn : 0 < n := Nat.pos_of_ne_zero fun e => h (.inl e)
      have := wst_lt l n hn
      exact ⟨by omega, this.2⟩
theorem wst_nonneg (l : List Nd) (n : Nat) : 0 ≤ (wstP l n).2 := by
  rcases Nat.eq_zero_or_pos n with rfl | h
  · exact Int.le_refl _
  · rw [(wst_lt l n h).2]; exact apt_nonneg _ _
theorem wst_max (l : List Nd) : ∀ n i, i < n → aptN l i ≤ (wstP l n).2
  | 0, i, h => absurd h (Nat.not_lt_zero _)
  | n + 1, i, h => by
    unfold wstP
    split
    · rename_i g
      show aptN l i ≤ aptN l n
      by_cases e : i = n
      · rw [e]; exact Int.le_refl _
      · have hi : i < n := by omega
        have := wst_max l n i hi
        rcases g with g | g | g
        · omega
        · omega
        · omega
    · rename_i g
      by_cases e : i = n
      · rw [e]
        have g2 : ¬ (wstP l n).2 < aptN l n := fun x => g (.inr (.inl x))
        omega
      · exact wst_max l n i (by omega)
theorem now_length (l : List Nd) (kept : List Nat) : (nowL l kept).length = kept.length := by simp [nowL]
theorem gone_length {kept : List Nat} {a : Nat} (h : a < kept.length) : (goneL kept a).length = kept.length - 1 := List.length_eraseIdx_of_lt h
theorem gone_up {kept : List Nat} (a : Nat) (h : kept.Pairwise (· < ·)) : (goneL kept a).Pairwise (· < ·) := h.sublist (List.eraseIdx_sublist _ _)
theorem gone_mem {kept : List Nat} {a x : Nat} (h : x ∈ goneL kept a) : x ∈ kept := (List.eraseIdx_sublist _ _).mem h
theorem worst_at {l : List Nd} (h : 0 < l.length) : (worstP l).1 < l.length := (wst_lt l _ h).1
/-- What is kept: in order, of the list; enough of it; its worst one's distance is told. -/
theorem prn_is (l : List Nd) (least : Int) : ∀ (f : Nat) (kept : List Nat), kept.Pairwise (· < ·) → (∀ x ∈ kept, x < l.length) →
    (prnP l least f kept).1.Pairwise (· < ·) ∧ (∀ x ∈ (prnP l least f kept).1, x ∈ kept) ∧ min (kept.length : Int) (max least 1) ≤ ((prnP l least f kept).1.length : Int) ∧ (prnP l least f kept).1.length ≤ kept.length ∧ (prnP l least f kept).2 = (worstP (nowL l (prnP l least f kept).1)).2
  | 0, kept, h1, h2 => ⟨h1, fun x hx => hx, by show min (kept.length : Int) (max least 1) ≤ (kept.length : Int); omega, Nat.le_refl _, rfl⟩
  | f + 1, kept, h1, h2 => by
    unfold prnP
    split
    · exact ⟨h1, fun x hx => hx, by show min (kept.length : Int) (max least 1) ≤ (kept.length : Int); omega, Nat.le_refl _, rfl⟩
    · rename_i g
      split
      · exact ⟨h1, fun x hx => hx, by show min (kept.length : Int) (max least 1) ≤ (kept.length : Int); omega, Nat.le_refl _, rfl⟩
      · have hk : 0 < kept.length := by omega
        have hw := worst_at (l := nowL l kept) (by rw [now_length]; exact hk)
        rw [now_length] at hw
        have hl := gone_length hw
        obtain ⟨e1, e2, e3, e4, e5⟩ := prn_is l least f (goneL kept (worstP (nowL l kept)).1) (gone_up _ h1) (fun x hx => h2 x (gone_mem hx))
        exact ⟨e1, fun x hx => gone_mem (e2 x hx), by rw [hl] at e3; omega, by omega, e5⟩
theorem prune_is (l : List Nd) (least : Int) : (prune l least).1.Pairwise (· < ·) ∧ (∀ x ∈ (prune l least).1, x < l.length) ∧ min (l.length : Int) (max least 1) ≤ ((prune l least).1.length : Int) ∧ (prune l least).1.length ≤ l.length ∧ (prune l least).2 = (worstP (nowL l (prune l least).1)).2 ∧ 0 ≤ (prune l least).2 := by
  obtain ⟨e1, e2, e3, e4, e5⟩ := prn_is l least l.length (List.range l.length) List.pairwise_lt_range (fun x hx => List.mem_range.1 hx)
  rw [List.length_range] at e3 e4
  refine ⟨e1, fun x hx => List.mem_range.1 (e2 x hx), e3, e4, e5, ?_⟩
  show 0 ≤ (prune l least).2
  have e5' : (prune l least).2 = (worstP (nowL l (prune l least).1)).2 := e5
  rw [e5']
  exact wst_nonneg _ _
theorem apt_one {l : List Nd} (h : l.length ≤ 1) (i : Nat) (hi : i < l.length) : aptN l i = 0 := by
  have : difN l i = [] := by
    unfold difN
    rw [List.map_eq_nil_iff, List.filter_eq_nil_iff]
    intro k hk
    rw [List.mem_range] at hk
    simp
    omega
  unfold aptN
  rw [this]
  rfl
theorem worst_one {l : List Nd} (h : l.length ≤ 1) : (worstP l).2 = 0 := by
  unfold worstP
  rcases Nat.eq_zero_or_pos l.length with e | e
  · rw [e]; rfl
  · have := wst_lt l _ e
    rw [this.2]
    exact apt_one h _ this.1
/-- The least and the greatest. -/
theorem fmin_le : ∀ (z : List Int) (s : Int), z.foldl min s ≤ s ∧ ∀ b ∈ z, z.foldl min s ≤ b
  | [], s => ⟨Int.le_refl _, by simp⟩
  | x :: z, s => by
    obtain ⟨h1, h2⟩ := fmin_le z (min s x)
    rw [List.foldl_cons]
    refine ⟨by omega, fun b hb => ?_⟩
    rcases List.mem_cons.1 hb with rfl | hb
    · omega
    · exact h2 b hb
theorem fmin_in : ∀ (z : List Int) (s : Int), z.foldl min s = s ∨ z.foldl min s ∈ z
  | [], s => .inl rfl
  | x :: z, s => by
    rw [List.foldl_cons]
    rcases fmin_in z (min s x) with h | h
    · rw [h]
      by_cases g : s ≤ x
      · left; omega
      · right
        have : min s x = x := by omega
        rw [this]
        exact List.mem_cons_self
    · exact .inr (List.mem_cons_of_mem _ h)
theorem fmax_le : ∀ (z : List Int) (s : Int), s ≤ z.foldl max s ∧ ∀ b ∈ z, b ≤ z.foldl max s
  | [], s => ⟨Int.le_refl _, by simp⟩
  | x :: z, s => by
    obtain ⟨h1, h2⟩ := fmax_le z (max s x)
    rw [List.foldl_cons]
    refine ⟨by omega, fun b hb => ?_⟩
    rcases List.mem_cons.1 hb with rfl | hb
    · omega
    · exact h2 b hb
theorem fmax_in : ∀ (z : List Int) (s : Int), z.foldl max s = s ∨ z.foldl max s ∈ z
  | [], s => .inl rfl
  | x :: z, s => by
    rw [List.foldl_cons]
    rcases fmax_in z (max s x) with h | h
    · rw [h]
      by_cases g : x ≤ s
      · left; omega
      · right
        have : max s x = x := by omega
        rw [this]
        exact List.mem_cons_self
    · exact .inr (List.mem_cons_of_mem _ h)
theorem off_mem {l : List Nd} {i : Nat} (h : i < l.length) : offN l i ∈ l.map Nd.off := by
  have : l.getD i Nd.zero = l[i] := by simp [List.getD, h]
  unfold offN
  rw [this]
  exact List.mem_map.2 ⟨l[i], List.getElem_mem h, rfl⟩
theorem low_high {l : List Nd} (h : l ≠ []) : (lowN l ∈ l.map Nd.off ∧ ∀ x ∈ l.map Nd.off, lowN l ≤ x) ∧ (highN l ∈ l.map Nd.off ∧ ∀ x ∈ l.map Nd.off, x ≤ highN l) := by
  have h0 := off_mem (l := l) (i := 0) (List.length_pos_iff.2 h)
  refine ⟨⟨?_, (fmin_le _ _).2⟩, ⟨?_, (fmax_le _ _).2⟩⟩
  · rcases fmin_in (l.map Nd.off) (offN l 0) with e | e
    · unfold lowN; rw [e]; exact h0
    · exact e
  · rcases fmax_in (l.map Nd.off) (offN l 0) with e | e
    · unfold highN; rw [e]; exact h0
    · exact e
/-- Some of a list are spread no further. -/
theorem spread_some {l m : List Nd} (hm : ∀ x ∈ m, x ∈ l) : spreadI m ≤ spreadI l ∨ m = [] ∧ 0 ≤ spreadI l := by
  by_cases h : m = []
  · right
    refine ⟨h, ?_⟩
    unfold spreadI
    split
    · exact Int.le_refl _
    · rename_i hl
      obtain ⟨⟨a1, a2⟩, b1, b2⟩ := low_high hl
      have := b2 _ a1
      unfold subI cutI
      omega
  · left
    obtain ⟨x, hx⟩ := List.exists_mem_of_ne_nil m h
    have hl : l ≠ [] := List.ne_nil_of_mem (hm x hx)
    obtain ⟨⟨a1, a2⟩, b1, b2⟩ := low_high h
    obtain ⟨⟨c1, c2⟩, d1, d2⟩ := low_high hl
    have sub : ∀ y ∈ m.map Nd.off, y ∈ l.map Nd.off := fun y hy => by
      obtain ⟨n, hn, rfl⟩ := List.mem_map.1 hy
      exact List.mem_map.2 ⟨n, hm n hn, rfl⟩
    have q1 := c2 _ (sub _ a1)
    have q2 := d2 _ (sub _ b1)
    unfold spreadI
    rw [if_neg h, if_neg hl]
    exact cutI_mono (by omega)
theorem spread_kept {l m : List Nd} (hm : ∀ x ∈ m, x ∈ l) : spreadI m ≤ spreadI l := by
  rcases spread_some hm with h | ⟨rfl, h⟩
  · exact h
  · exact h
theorem now_mem {l : List Nd} {kept : List Nat} (h : ∀ x ∈ kept, x < l.length) : ∀ x ∈ nowL l kept, x ∈ l := by
  intro x hx
  obtain ⟨i, hi, rfl⟩ := List.mem_map.1 hx
  have := h i hi
  have e : l.getD i Nd.zero = l[i] := by simp [List.getD, this]
  rw [e]
  exact List.getElem_mem this
/-- Where all of them are moved alike. -/
theorem apt_moved {l m : List Nd} (hl : l.length = m.length) (hd : ∀ i k, i < l.length → k < l.length → subI (offN l i) (offN l k) = subI (offN m i) (offN m k)) {i : Nat} (hi : i < l.length) : aptN l i = aptN m i := by
  unfold aptN
  have : difN l i = difN m i := by
    unfold difN
    rw [← hl]
    refine List.map_congr_left fun k hk => ?_
    have hk' := List.mem_range.1 (List.mem_filter.1 hk).1
    exact hd i k hi hk'
  rw [this]
theorem wst_moved {l m : List Nd} (hl : l.length = m.length) (ha : ∀ i, i < l.length → aptN l i = aptN m i) (hm : ∀ i, i < l.length → metNd l i = metNd m i) : ∀ n, n ≤ l.length → wstP l n = wstP m n
  | 0, _ => rfl
  | n + 1, h => by
    have ih := wst_moved hl ha hm n (by omega)
    unfold wstP
    rw [ih, ha n (by omega), hm n (by omega)]
    rcases Nat.eq_zero_or_pos n with e | e
    · rw [if_pos (.inl e), if_pos (.inl e)]
    · have := (wst_lt m n e).1
      rw [hm _ (by omega)]
theorem gd_now (l : List Nd) (kept : List Nat) {i : Nat} (h : i < kept.length) : (nowL l kept).getD i Nd.zero = l.getD (kept.getD i 0) Nd.zero := by
  unfold nowL
  simp [List.getD, h]
theorem worst_moved {l m : List Nd} (hl : l.length = m.length) (hd : ∀ i k, i < l.length → k < l.length → subI (offN l i) (offN l k) = subI (offN m i) (offN m k)) (hm : ∀ i, i < l.length → metNd l i = metNd m i) {kept : List Nat} (hk : ∀ x ∈ kept, x < l.length) : worstP (nowL l kept) = worstP (nowL m kept) := by
  have at_ : ∀ i, i < kept.length → kept.getD i 0 < l.length := fun i hi => hk _ (by simp [List.getD, hi])
  unfold worstP
  rw [now_length, now_length]
  refine wst_moved (by rw [now_length, now_length]) (fun i hi => ?_) (fun i hi => ?_) _ (by rw [now_length]; exact Nat.le_refl _)
  · refine apt_moved (by rw [now_length, now_length]) (fun a b ha hb => ?_) hi
    rw [now_length] at ha hb
    unfold offN
    rw [gd_now _ _ ha, gd_now _ _ hb, gd_now _ _ ha, gd_now _ _ hb]
    exact hd _ _ (at_ a ha) (at_ b hb)
  · rw [now_length] at hi
    unfold metNd
    rw [gd_now _ _ hi, gd_now _ _ hi]
    exact hm _ (at_ i hi)
theorem quiet_moved {l m : List Nd} (hl : l.length = m.length) (hj : ∀ i, i < l.length → jitN l i = jitN m i) {kept : List Nat} (hk : ∀ x ∈ kept, x < l.length) (h0 : 0 < kept.length) : quietI (nowL l kept) = quietI (nowL m kept) := by
  unfold quietI
  have e : (nowL l kept).map Nd.jit = (nowL m kept).map Nd.jit := by
    unfold nowL
    rw [List.map_map, List.map_map]
    exact List.map_congr_left fun k hkk => hj k (hk k hkk)
  have e0 : jitN (nowL l kept) 0 = jitN (nowL m kept) 0 := by
    unfold jitN
    rw [gd_now _ _ h0, gd_now _ _ h0]
    exact hj _ (hk _ (by simp [List.getD, h0]))
  rw [e, e0]
theorem prn_moved {l m : List Nd} (least : Int) (hl : l.length = m.length) (hd : ∀ i k, i < l.length → k < l.length → subI (offN l i) (offN l k) = subI (offN m i) (offN m k)) (hm : ∀ i, i < l.length → metNd l i = metNd m i) (hj : ∀ i, i < l.length → jitN l i = jitN m i) :
    ∀ (f : Nat) (kept : List Nat), (∀ x ∈ kept, x < l.length) → prnP l least f kept = prnP m least f kept
  | 0, kept, h => by unfold prnP; rw [worst_moved hl hd hm h]
  | f + 1, kept, h => by
    unfold prnP
    rw [worst_moved hl hd hm h]
    split
    · rfl
    · rename_i g
      rw [quiet_moved hl hj h (by omega)]
      split
      · rfl
      · exact prn_moved least hl hd hm hj f _ (fun x hx => h x (gone_mem hx))
theorem prune_moved {l m : List Nd} (least : Int) (hl : l.length = m.length) (hd : ∀ i k, i < l.length → k < l.length → subI (offN l i) (offN l k) = subI (offN m i) (offN m k)) (hm : ∀ i, i < l.length → metNd l i = metNd m i) (hj : ∀ i, i < l.length → jitN l i = jitN m i) : prune l least = prune m least := by
  unfold prune
  rw [prn_moved least hl hd hm hj _ _ (fun x hx => List.mem_range.1 hx), hl]
def threeN : List Nd := [⟨0, 0, 0⟩, ⟨4294967296, 0, 0⟩, ⟨429496729600, 0, 0⟩]
set_option maxRecDepth 100000 in
theorem three_worst : worstP threeN = (2, aptN threeN 2) := by
  have m0 : 0 ≤ meanI ((difN threeN 0).map fun x => mulI x x) ∧ meanI ((difN threeN 0).map fun x => mulI x x) * 4294967296 < 343597383680 * 343597383680 := by decide +kernel
  have m1 : 0 ≤ meanI ((difN threeN 1).map fun x => mulI x x) ∧ meanI ((difN threeN 1).map fun x => mulI x x) * 4294967296 < 343597383680 * 343597383680 := by decide +kernel
  have m2 : 0 ≤ meanI ((difN threeN 2).map fun x => mulI x x) ∧ 343597383680 * 343597383680 ≤ meanI ((difN threeN 2).map fun x => mulI x x) * 4294967296 := by decide +kernel
  have b0 : aptN threeN 0 < 343597383680 := by
    refine Int.lt_of_not_ge fun h => ?_
    have := (le_rootI (meanI ((difN threeN 0).map fun x => mulI x x)) 343597383680 m0.1 (by omega)).1 h
    omega
  have b1 : aptN threeN 1 < 343597383680 := by
    refine Int.lt_of_not_ge fun h => ?_
    have := (le_rootI (meanI ((difN threeN 1).map fun x => mulI x x)) 343597383680 m1.1 (by omega)).1 h
    omega
  have b2 : 343597383680 ≤ aptN threeN 2 := (le_rootI (meanI ((difN threeN 2).map fun x => mulI x x)) 343597383680 m2.1 (by omega)).2 m2.2
  have hw := wst_lt threeN 2 (by decide)
  have hlt : (wstP threeN 2).2 < aptN threeN 2 := by
    rw [hw.2]
    have h2 := hw.1
    generalize (wstP threeN 2).1 = k at *
    have : k = 0 ∨ k = 1 := by omega
    rcases this with rfl | rfl <;> omega
  show wstP threeN 3 = _
  rw [wstP, if_pos (.inr (.inl hlt))]
theorem three_prune : (prune threeN 2).1 = [0, 1] ∧ spreadI threeN = 429496729600 := by
  refine ⟨?_, by decide +kernel⟩
  show (prnP threeN 2 3 [0, 1, 2]).1 = [0, 1]
  have e : nowL threeN [0, 1, 2] = threeN := rfl
  rw [prnP, if_neg (by decide), e, three_worst, if_neg (by
    show ¬ aptN threeN 2 < quietI threeN
    have h := apt_nonneg threeN 2
    have q : quietI threeN = 0 := by decide
    omega)]
  show (prnP threeN 2 2 [0, 1]).1 = [0, 1]
  rw [prnP, if_pos (by decide)]
theorem three_typedN : ∀ c ∈ threeN, c.Typed := by
  intro c hc
  simp only [threeN, List.mem_cons, List.not_mem_nil, or_false] at hc
  rcases hc with rfl | rfl | rfl <;> exact ⟨by decide, by decide, by decide⟩
end Go.Proofs.Ytefjdmbioclddaa.W
