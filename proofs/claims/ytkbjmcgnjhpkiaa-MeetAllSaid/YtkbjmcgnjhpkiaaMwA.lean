/- Layer 16's edges as plain lists: in order, counted upwards and downwards. No program in it. -/
import Derived.Test.YtkbjmcgnjhpkiaaMtA
namespace Go.Proofs.Ytkbjmcgnjhpkiaa.W
open Go.RowKit
set_option linter.unusedVariables false
set_option linter.unusedSimpArgs false
structure Eg where
  at_ : Int
  sd : Int
def Eg.val (e : Eg) : Value := .agg #[.int .i64 e.at_, .int .i64 e.sd]
def egE (e : Eg) : List Value := [.int .i64 e.at_, .int .i64 e.sd]
theorem Eg.ext' {a b : Eg} (h1 : a.at_ = b.at_) (h2 : a.sd = b.sd) : a = b := by cases a; cases b; simp_all
instance : Inhabited Eg := ⟨⟨0, 0⟩⟩
structure Eg.Ok (e : Eg) : Prop where
  at_ : -9223372036854775808 ≤ e.at_ ∧ e.at_ ≤ 9223372036854775807
  sd : e.sd = -1 ∨ e.sd = 0 ∨ e.sd = 1
def Eg.le (a b : Eg) : Prop := a.at_ < b.at_ ∨ (a.at_ = b.at_ ∧ a.sd ≤ b.sd)
def edgesOf (c : Cd) : List Eg := [⟨c.lo, -1⟩, ⟨c.mid, 0⟩, ⟨c.hi, 1⟩]
def allE (l : List Cd) : List Eg := l.flatMap edgesOf
theorem allE_cons (c : Cd) (l : List Cd) : allE (c :: l) = ⟨c.lo, -1⟩ :: ⟨c.mid, 0⟩ :: ⟨c.hi, 1⟩ :: allE l := rfl
theorem allE_length (l : List Cd) : (allE l).length = l.length * 3 := by
  induction l with
  | nil => rfl
  | cons c l ih => rw [allE_cons]; simp only [List.length_cons]; omega
theorem allE_snoc (l : List Cd) (c : Cd) : allE (l ++ [c]) = allE l ++ edgesOf c := by simp [allE]
theorem allE_ok {l : List Cd} (tl : ∀ c ∈ l, c.Typed) : ∀ e ∈ allE l, e.Ok := by
  intro e he
  obtain ⟨c, hc, h⟩ := List.mem_flatMap.1 he
  have t := tl c hc
  simp only [edgesOf, List.mem_cons, List.not_mem_nil, or_false] at h
  rcases h with rfl | rfl | rfl
  · exact ⟨t.lo, .inl rfl⟩
  · exact ⟨t.mid, .inr (.inl rfl)⟩
  · exact ⟨t.hi, .inr (.inr rfl)⟩
structure IsEdges (l : List Cd) (E : List Eg) : Prop where
  perm : E.Perm (allE l)
  order : E.Pairwise Eg.le
/-- The edges in order are one list. -/
theorem edges_one : ∀ {a b : List Eg}, a.Pairwise Eg.le → b.Pairwise Eg.le → a.Perm b → a = b
  | [], b, _, _, h => (List.Perm.eq_nil h.symm).symm ▸ rfl
  | x :: a, [], _, _, h => by cases List.Perm.eq_nil h
  | x :: a, y :: b, ha, hb, h => by
    have ha' := List.pairwise_cons.1 ha
    have hb' := List.pairwise_cons.1 hb
    have e : x = y := by
      have h1 : x ∈ y :: b := h.mem_iff.1 List.mem_cons_self
      have h2 : y ∈ x :: a := h.mem_iff.2 List.mem_cons_self
      rcases List.mem_cons.1 h1 with e | h1
      · exact e
      rcases List.mem_cons.1 h2 with e | h2
      · exact e.symm
      have l1 := hb'.1 x h1
      have l2 := ha'.1 y h2
      unfold Eg.le at l1 l2
      exact Eg.ext' (by omega) (by omega)
    subst e
    rw [edges_one ha'.2 hb'.2 (h.cons_inv)]
/-- What is counted, and what was reached. -/
def cntE : List Eg → Int
  | [] => 0
  | e :: r => -e.sd + cntE r
theorem cntE_append (a b : List Eg) : cntE (a ++ b) = cntE a + cntE b := by
  induction a with
  | nil => simp [cntE]
  | cons e r ih => simp only [List.cons_append, cntE, ih]; omega
def reachF (many : Int) : Int → List (Eg × Int) → Option Eg
  | _, [] => none
  | c, x :: r => if c + x.2 = many then some x.1 else reachF many (c + x.2) r
def sumM (L : List (Eg × Int)) : Int := L.foldl (fun s x => s + x.2) 0
theorem sum_from (L : List (Eg × Int)) (c : Int) : L.foldl (fun s x => s + x.2) c = c + sumM L := by
  unfold sumM
  induction L generalizing c with
  | nil => simp
  | cons x r ih => rw [List.foldl_cons, List.foldl_cons, ih (c + x.2), ih (0 + x.2)]; omega
theorem sum_cons (x : Eg × Int) (r : List (Eg × Int)) : sumM (x :: r) = x.2 + sumM r := by
  unfold sumM
  rw [List.foldl_cons, sum_from]
  unfold sumM
  omega
theorem sum_snoc (L : List (Eg × Int)) (x : Eg × Int) : sumM (L ++ [x]) = sumM L + x.2 := by simp [sumM]
theorem reach_snoc (many : Int) : ∀ (L : List (Eg × Int)) (c : Int) (x : Eg × Int), reachF many c (L ++ [x]) = match reachF many c L with
    | some e => some e
    | none => if c + sumM L + x.2 = many then some x.1 else none
  | [], c, x => by
    rw [List.nil_append]
    unfold reachF
    simp only [reachF]
    have : sumM [] = 0 := rfl
    rw [this, Int.add_zero]
  | y :: r, c, x => by
    rw [List.cons_append]
    unfold reachF
    split
    · rfl
    · rw [reach_snoc many r (c + y.2) x, sum_cons, show c + y.2 + sumM r = c + (y.2 + sumM r) by omega]
theorem sum_bound {L : List (Eg × Int)} (h : ∀ x ∈ L, -1 ≤ x.2 ∧ x.2 ≤ 1) : -(L.length : Int) ≤ sumM L ∧ sumM L ≤ L.length := by
  induction L with
  | nil => exact ⟨by simp [sumM], by simp [sumM]⟩
  | cons x r ih =>
    have h1 := h x List.mem_cons_self
    have h2 := ih fun y hy => h y (List.mem_cons_of_mem _ hy)
    rw [sum_cons, List.length_cons]
    omega
def isEg (a b : Eg) : Bool := decide (a.at_ = b.at_) && decide (a.sd = b.sd)
theorem isEg_iff {a b : Eg} : isEg a b = true ↔ a = b := by
  unfold isEg
  rw [Bool.and_eq_true, decide_eq_true_iff, decide_eq_true_iff]
  exact ⟨fun h => Eg.ext' h.1 h.2, fun h => h ▸ ⟨rfl, rfl⟩⟩
theorem isEg_not {a b : Eg} : isEg a b = false ↔ a ≠ b := by rw [Bool.eq_false_iff, Ne, isEg_iff]
/-- How many Mids are gone by on the way to an edge. -/
def passF (to : Eg) : List (Eg × Int) → Nat
  | [] => 0
  | x :: r => if isEg x.1 to = true then 0 else (if x.1.sd = 0 then 1 else 0) + passF to r
theorem pass_append (to : Eg) : ∀ (L R : List (Eg × Int)), (∀ x ∈ L, x.1 ≠ to) → passF to (L ++ R) = passF to L + passF to R
  | [], R, _ => by simp [passF]
  | x :: r, R, h => by
    have h1 := isEg_not.2 (h x List.mem_cons_self)
    rw [List.cons_append, passF, passF, h1, pass_append to r R fun y hy => h y (List.mem_cons_of_mem _ hy)]
    simp
    omega
theorem pass_le (to : Eg) : ∀ L : List (Eg × Int), passF to L ≤ L.length
  | [] => Nat.le_refl _
  | x :: r => by
    have := pass_le to r
    unfold passF
    rw [List.length_cons]
    split
    · omega
    · split <;> omega
theorem pass_stop (to : Eg) (m : Int) (R : List (Eg × Int)) : passF to ((to, m) :: R) = 0 := by
  unfold passF
  rw [isEg_iff.2 rfl, if_pos rfl]
/-- Upwards, and downwards. -/
def upL (E : List Eg) : List (Eg × Int) := E.map fun e => (e, e.sd * -1)
def dnL (E : List Eg) : List (Eg × Int) := E.reverse.map fun e => (e, e.sd * 1)
theorem reach_some {many : Int} : ∀ (L : List Eg) (c : Int) (e : Eg), (∀ e ∈ L, e.sd = -1 ∨ e.sd = 0 ∨ e.sd = 1) → c < many → reachF many c (upL L) = some e →
    ∃ P R, L = P ++ e :: R ∧ e.sd = -1 ∧ c + cntE P + 1 = many ∧ ∀ Q, Q <+: P → c + cntE Q < many
  | [], _, _, _, _, h => by cases h
  | x :: r, c, e, hs, hc, h => by
    have hx := hs x List.mem_cons_self
    unfold upL at h
    rw [List.map_cons] at h
    unfold reachF at h
    split at h
    · rename_i hm
      obtain rfl : x = e := by simpa using h
      dsimp only at hm
      exact ⟨[], r, rfl, by omega, by simp [cntE]; omega, fun Q hQ => by rw [List.prefix_nil.1 hQ]; simpa [cntE] using hc⟩
    · rename_i hm
      dsimp only at hm h
      obtain ⟨P, R, h1, h2, h3, h4⟩ := reach_some r (c + x.sd * -1) e (fun y hy => hs y (List.mem_cons_of_mem _ hy)) (by omega) h
      refine ⟨x :: P, R, by rw [h1]; rfl, h2, by simp only [cntE]; omega, fun Q hQ => ?_⟩
      rcases List.prefix_cons_iff.1 hQ with rfl | ⟨t, rfl, ht⟩
      · simpa [cntE] using hc
      · have := h4 t ht
        simp only [cntE]
        omega
theorem reach_none {many : Int} : ∀ (L : List Eg) (c : Int), (∀ e ∈ L, e.sd = -1 ∨ e.sd = 0 ∨ e.sd = 1) → c < many → reachF many c (upL L) = none → ∀ Q, Q <+: L → c + cntE Q < many
  | [], c, _, hc, _, Q, hQ => by rw [List.prefix_nil.1 hQ]; simpa [cntE] using hc
  | x :: r, c, hs, hc, h, Q, hQ => by
    have hx := hs x List.mem_cons_self
    unfold upL at h
    rw [List.map_cons] at h
    unfold reachF at h
    split at h
    · cases h
    · rename_i hm
      dsimp only at hm h
      have ih := reach_none r (c + x.sd * -1) (fun y hy => hs y (List.mem_cons_of_mem _ hy)) (by omega) h
      rcases List.prefix_cons_iff.1 hQ with rfl | ⟨t, rfl, ht⟩
      · simpa [cntE] using hc
      · have := ih t ht
        simp only [cntE]
        omega
theorem cnt_is : ∀ (L : List Eg), (∀ e ∈ L, e.sd = -1 ∨ e.sd = 0 ∨ e.sd = 1) → cntE L = (L.countP fun e => decide (e.sd = -1) : Int) - (L.countP fun e => decide (e.sd = 1) : Int)
  | [], _ => rfl
  | x :: r, h => by
    have ih := cnt_is r fun y hy => h y (List.mem_cons_of_mem _ hy)
    have hx := h x List.mem_cons_self
    unfold cntE
    rw [ih, List.countP_cons, List.countP_cons]
    rcases hx with e | e | e <;> simp [e] <;> omega
def highsB (x : Int) (e : Eg) : Bool := decide (e.sd = 1) && decide (e.at_ < x)
def lowsA (x : Int) (e : Eg) : Bool := decide (e.sd = -1) && decide (e.at_ ≤ x)
def midsB (x : Int) (e : Eg) : Bool := decide (e.sd = 0) && decide (e.at_ < x)
theorem highs_all (x : Int) : ∀ l : List Cd, (allE l).countP (highsB x) = l.countP fun c => decide (c.hi < x)
  | [] => rfl
  | c :: l => by
    rw [allE_cons]
    simp only [List.countP_cons, highs_all x l]
    simp [highsB]
theorem lows_all (x : Int) : ∀ l : List Cd, (allE l).countP (lowsA x) = l.countP fun c => decide (c.lo ≤ x)
  | [] => rfl
  | c :: l => by
    rw [allE_cons]
    simp only [List.countP_cons, lows_all x l]
    simp [lowsA]
theorem mids_all (x : Int) : ∀ l : List Cd, (allE l).countP (midsB x) = midsLo l x
  | [] => rfl
  | c :: l => by
    rw [allE_cons]
    simp only [List.countP_cons, mids_all x l]
    unfold midsLo
    rw [List.countP_cons]
    simp [midsB]
theorem dep_diff (x : Int) : ∀ {l : List Cd}, (∀ c ∈ l, c.Ok) → (depN l x : Int) = (l.countP fun c => decide (c.lo ≤ x) : Int) - (l.countP fun c => decide (c.hi < x) : Int)
  | [], _ => rfl
  | c :: l, h => by
    have ih := dep_diff x (l := l) fun y hy => h y (List.mem_cons_of_mem _ hy)
    obtain ⟨h1, h2⟩ := h c List.mem_cons_self
    unfold depN at *
    rw [List.countP_cons, List.countP_cons, List.countP_cons]
    by_cases g1 : c.lo ≤ x
    · by_cases g2 : x ≤ c.hi
      · have g3 : ¬ c.hi < x := by omega
        rw [inC_iff.2 ⟨g1, g2⟩, decide_eq_true g1, decide_eq_false g3]
        simp
        omega
      · have g3 : c.hi < x := by omega
        rw [Bool.eq_false_iff.2 fun h => g2 (inC_iff.1 h).2, decide_eq_true g1, decide_eq_true g3]
        simp
        omega
    · have g3 : ¬ c.hi < x := by omega
      rw [Bool.eq_false_iff.2 fun h => g1 (inC_iff.1 h).1, decide_eq_false g1, decide_eq_false g3]
      simp
      omega
theorem sides_of {l : List Cd} {E : List Eg} (h : IsEdges l E) : ∀ e ∈ E, e.sd = -1 ∨ e.sd = 0 ∨ e.sd = 1 := by
  intro e he
  obtain ⟨c, hc, g⟩ := List.mem_flatMap.1 (h.perm.mem_iff.1 he)
  simp only [edgesOf, List.mem_cons, List.not_mem_nil, or_false] at g
  rcases g with rfl | rfl | rfl <;> simp
theorem order_parts {P R : List Eg} {e : Eg} (h : (P ++ e :: R).Pairwise Eg.le) : (∀ p ∈ P, Eg.le p e) ∧ ∀ r ∈ R, Eg.le e r := by
  obtain ⟨h1, h2, h3⟩ := List.pairwise_append.1 h
  exact ⟨fun p hp => h3 p hp e List.mem_cons_self, (List.pairwise_cons.1 h2).1⟩
/-- Ahead of a Low. -/
theorem ahead_low {l : List Cd} (ok : ∀ c ∈ l, c.Ok) {E P R : List Eg} {e : Eg} (h : IsEdges l E) (hE : E = P ++ e :: R) (he : e.sd = -1) :
    cntE P + 1 ≤ depN l e.at_ ∧ (P.countP fun x => decide (x.sd = 0)) = midsLo l e.at_ := by
  obtain ⟨h1, h2⟩ := order_parts (hE ▸ h.order)
  have sP : ∀ x ∈ P, x.sd = -1 ∨ x.sd = 0 ∨ x.sd = 1 := fun x hx => sides_of h x (hE ▸ List.mem_append_left _ hx)
  have c1 : (P.countP fun x => decide (x.sd = 1)) = E.countP (highsB e.at_) := by
    rw [hE, List.countP_append, List.countP_cons]
    have r0 : R.countP (highsB e.at_) = 0 := List.countP_eq_zero.2 fun r hr => by
      have := h2 r hr
      unfold Eg.le at this
      simp [highsB]
      omega
    have e0 : highsB e.at_ e = false := by simp [highsB, he]
    rw [r0, e0]
    simp
    refine List.countP_congr fun x hx => ?_
    have := h1 x hx
    unfold Eg.le at this
    simp [highsB]
    omega
  have c2 : (P.countP fun x => decide (x.sd = -1)) + 1 ≤ E.countP (lowsA e.at_) := by
    rw [hE, List.countP_append, List.countP_cons]
    have e0 : lowsA e.at_ e = true := by simp [lowsA, he]
    have p0 : (P.countP fun x => decide (x.sd = -1)) = P.countP (lowsA e.at_) := List.countP_congr fun x hx => by
      have := h1 x hx
      unfold Eg.le at this
      simp [lowsA]
      omega
    rw [e0, p0]
    simp
  have c3 : (P.countP fun x => decide (x.sd = 0)) = E.countP (midsB e.at_) := by
    rw [hE, List.countP_append, List.countP_cons]
    have r0 : R.countP (midsB e.at_) = 0 := List.countP_eq_zero.2 fun r hr => by
      have := h2 r hr
      unfold Eg.le at this
      simp [midsB]
      omega
    have e0 : midsB e.at_ e = false := by simp [midsB, he]
    rw [r0, e0]
    simp
    refine List.countP_congr fun x hx => ?_
    have := h1 x hx
    unfold Eg.le at this
    simp [midsB]
    omega
  rw [h.perm.countP_eq, highs_all] at c1
  rw [h.perm.countP_eq, lows_all] at c2
  rw [h.perm.countP_eq, mids_all] at c3
  refine ⟨?_, c3⟩
  rw [cnt_is P sP, dep_diff _ ok, c1]
  omega
/-- As far as the last Low that is not above a number. -/
theorem upto_low {l : List Cd} (ok : ∀ c ∈ l, c.Ok) {E : List Eg} (h : IsEdges l E) (x : Int) :
    ∃ Q, Q <+: E ∧ cntE Q = depN l x ∧ ∀ e ∈ Q, e.at_ ≤ x := by
  let p : Eg → Bool := fun e => decide (e.at_ < x) || (decide (e.at_ = x) && decide (e.sd ≤ -1))
  have hp : ∀ e, p e = true ↔ e.at_ < x ∨ (e.at_ = x ∧ e.sd ≤ -1) := fun e => by simp [p]
  have hE : E.takeWhile p ++ E.dropWhile p = E := List.takeWhile_append_dropWhile
  have hQ : ∀ e ∈ E.takeWhile p, p e = true := fun e he => by
    have := List.all_takeWhile (p := p) (l := E)
    exact List.all_eq_true.1 this e he
  have hT : ∀ e ∈ E.dropWhile p, p e = false := by
    cases hd : E.dropWhile p with
    | nil => simp
    | cons y T =>
      have hy : p y = false := by
        have := List.head?_dropWhile_not p E
        rw [hd] at this
        simpa using this
      have ho := h.order
      rw [← hE, hd] at ho
      intro e he
      rcases List.mem_cons.1 he with rfl | he
      · exact hy
      · have := (order_parts ho).2 e he
        unfold Eg.le at this
        rw [Bool.eq_false_iff, Ne, hp] at hy ⊢
        omega
  refine ⟨E.takeWhile p, List.takeWhile_prefix p, ?_, fun e he => by have := (hp e).1 (hQ e he); omega⟩
  have sQ : ∀ e ∈ E.takeWhile p, e.sd = -1 ∨ e.sd = 0 ∨ e.sd = 1 := fun e he => sides_of h e ((List.takeWhile_prefix p).subset he)
  have sT : ∀ e ∈ E.dropWhile p, e.sd = -1 ∨ e.sd = 0 ∨ e.sd = 1 := fun e he => sides_of h e ((List.dropWhile_suffix p).subset he)
  have c1 : ((E.takeWhile p).countP fun e => decide (e.sd = 1)) = E.countP (highsB x) := by
    conv => rhs; rw [← hE]
    rw [List.countP_append]
    have r0 : (E.dropWhile p).countP (highsB x) = 0 := List.countP_eq_zero.2 fun r hr => by
      have := hT r hr
      rw [Bool.eq_false_iff, Ne, hp] at this
      simp [highsB]
      omega
    rw [r0, Nat.add_zero]
    refine List.countP_congr fun e he => ?_
    have := (hp e).1 (hQ e he)
    simp [highsB]
    omega
  have c2 : ((E.takeWhile p).countP fun e => decide (e.sd = -1)) = E.countP (lowsA x) := by
    conv => rhs; rw [← hE]
    rw [List.countP_append]
    have r0 : (E.dropWhile p).countP (lowsA x) = 0 := List.countP_eq_zero.2 fun r hr => by
      have := hT r hr
      rw [Bool.eq_false_iff, Ne, hp] at this
      have := sT r hr
      simp [lowsA]
      omega
    rw [r0, Nat.add_zero]
    refine List.countP_congr fun e he => ?_
    have := (hp e).1 (hQ e he)
    simp [lowsA]
    omega
  rw [cnt_is _ sQ, dep_diff _ ok, c1, c2, h.perm.countP_eq, h.perm.countP_eq, highs_all, lows_all]
/-- Going up, the first edge from which on so many are counted. -/
theorem reach_up {l : List Cd} (ok : ∀ c ∈ l, c.Ok) {E : List Eg} (h : IsEdges l E) {need : Nat} (h0 : 0 < need) :
    reachF need 0 (upL E) = (lowO l need).map fun a => ⟨a, -1⟩ := by
  have sE := sides_of h
  cases hr : reachF need 0 (upL E) with
  | some e =>
    obtain ⟨P, R, h1, h2, h3, h4⟩ := reach_some E 0 e sE (by omega) hr
    obtain ⟨g1, _⟩ := ahead_low ok h h1 h2
    have hl : lowO l need = some e.at_ := by
      rw [low_iff h0]
      refine ⟨by omega, fun x hx => ?_⟩
      obtain ⟨Q, hQ, hc, hm⟩ := upto_low ok h x
      have hP : P ++ [e] <+: E := ⟨R, by rw [h1]; simp⟩
      rcases List.prefix_or_prefix_of_prefix hP hQ with g | g
      · exact hm e (g.subset (by simp))
      · rcases List.prefix_concat_iff.1 g with rfl | g
        · exact hm e (by simp)
        · have := h4 Q g
          omega
    rw [hl]
    exact congrArg some (Eg.ext' rfl h2)
  | none =>
    cases hl : lowO l need with
    | none => rfl
    | some a =>
      obtain ⟨g1, _⟩ := (low_iff h0 a).1 hl
      obtain ⟨Q, hQ, hc, _⟩ := upto_low ok h a
      have := reach_none E 0 sE (by omega) hr Q hQ
      omega
theorem pass_is (to : Eg) : ∀ (P : List Eg) (R : List Eg), (∀ x ∈ P, x ≠ to) → passF to (upL (P ++ to :: R)) = P.countP fun x => decide (x.sd = 0)
  | [], R, _ => by
    unfold upL
    rw [List.nil_append, List.map_cons, pass_stop]
    rfl
  | x :: P, R, h => by
    have ih := pass_is to P R fun y hy => h y (List.mem_cons_of_mem _ hy)
    unfold upL at ih ⊢
    rw [List.cons_append, List.map_cons, passF, isEg_not.2 (h x List.mem_cons_self), ih, List.countP_cons]
    simp
    omega
/-- On the way to it. -/
theorem pass_up {l : List Cd} (ok : ∀ c ∈ l, c.Ok) {E : List Eg} (h : IsEdges l E) {a : Int} (ha : (⟨a, -1⟩ : Eg) ∈ E) : passF ⟨a, -1⟩ (upL E) = midsLo l a := by
  obtain ⟨P, R, hE, hn⟩ : ∃ P R, E = P ++ ⟨a, -1⟩ :: R ∧ (⟨a, -1⟩ : Eg) ∉ P := by
    clear h
    induction E with
    | nil => cases ha
    | cons x r ih =>
      by_cases hx : x = ⟨a, -1⟩
      · exact ⟨[], r, by rw [hx]; rfl, by simp⟩
      · rcases List.mem_cons.1 ha with e | ha
        · exact absurd e.symm hx
        · obtain ⟨P, R, h1, h2⟩ := ih ha
          exact ⟨x :: P, R, by rw [h1]; rfl, by rw [List.mem_cons, not_or]; exact ⟨fun e => hx e.symm, h2⟩⟩
  obtain ⟨_, g2⟩ := ahead_low ok h hE rfl
  rw [hE, pass_is _ P R (fun x hx e => hn (by rw [← e]; exact hx))]
  exact g2
theorem low_edge {l : List Cd} {E : List Eg} (h : IsEdges l E) {need : Nat} {a : Int} (hl : lowO l need = some a) : (⟨a, -1⟩ : Eg) ∈ E := by
  obtain ⟨c, hc, rfl⟩ := low_mem hl
  exact h.perm.mem_iff.2 (List.mem_flatMap.2 ⟨c, hc, by simp [edgesOf]⟩)
/-- The other way round. -/
def negE (e : Eg) : Eg := ⟨-e.at_, -e.sd⟩
def negC (c : Cd) : Cd := ⟨-c.hi, -c.mid, -c.lo⟩
theorem neg_neg (e : Eg) : negE (negE e) = e := Eg.ext' (by simp [negE]) (by simp [negE])
theorem neg_ok {l : List Cd} (ok : ∀ c ∈ l, c.Ok) : ∀ c ∈ l.map negC, c.Ok := by
  intro c hc
  obtain ⟨d, hd, rfl⟩ := List.mem_map.1 hc
  have := ok d hd
  unfold Cd.Ok at this ⊢
  simp only [negC]
  omega
theorem neg_all : ∀ l : List Cd, ((allE l).map negE).Perm (allE (l.map negC))
  | [] => List.Perm.refl _
  | c :: l => by
    rw [List.map_cons, allE_cons, allE_cons]
    simp only [List.map_cons, negE, negC]
    refine List.Perm.trans ?_ (List.Perm.cons _ (List.Perm.cons _ (List.Perm.cons _ (neg_all l))))
    have e : (-(-1 : Int)) = 1 := rfl
    have e0 : (-(0 : Int)) = 0 := rfl
    rw [e, e0]
    refine (List.Perm.cons _ (List.Perm.swap _ _ _)).trans ((List.Perm.swap _ _ _).trans (List.Perm.cons _ (List.Perm.swap _ _ _)))
theorem neg_edges {l : List Cd} {E : List Eg} (h : IsEdges l E) : IsEdges (l.map negC) (E.reverse.map negE) := by
  refine ⟨((List.reverse_perm E).map negE).trans ((h.perm.map negE).trans (neg_all l)), ?_⟩
  rw [List.pairwise_map, List.pairwise_reverse]
  refine h.order.imp fun {a b} hab => ?_
  unfold Eg.le at hab ⊢
  simp only [negE]
  omega
theorem dn_neg (E : List Eg) : dnL E = (upL (E.reverse.map negE)).map fun x => (negE x.1, x.2) := by
  unfold dnL upL
  rw [List.map_map, List.map_map]
  refine List.map_congr_left fun e _ => ?_
  show (e, e.sd * 1) = (negE (negE e), (negE e).sd * -1)
  rw [neg_neg]
  simp [negE]
theorem reach_map (many : Int) (f : Eg → Eg) : ∀ (L : List (Eg × Int)) (c : Int), reachF many c (L.map fun x => (f x.1, x.2)) = (reachF many c L).map f
  | [], _ => rfl
  | x :: r, c => by
    rw [List.map_cons]
    unfold reachF
    dsimp only
    split
    · rfl
    · exact reach_map many f r _
theorem pass_map (to : Eg) : ∀ (L : List (Eg × Int)), passF (negE to) (L.map fun x => (negE x.1, x.2)) = passF to L
  | [] => rfl
  | x :: r => by
    rw [List.map_cons]
    unfold passF
    rw [pass_map to r]
    have h1 : isEg (negE x.1) (negE to) = isEg x.1 to := by
      rw [Bool.eq_iff_iff, isEg_iff, isEg_iff]
      exact ⟨fun e => by rw [← neg_neg x.1, e, neg_neg], fun e => by rw [e]⟩
    dsimp only
    rw [h1]
    have h2 : ((negE x.1).sd = 0) = (x.1.sd = 0) := by simp [negE]
    simp only [h2]
theorem dep_neg (l : List Cd) (x : Int) : depN (l.map negC) (-x) = depN l x := by
  unfold depN
  rw [List.countP_map]
  refine List.countP_congr fun c _ => ?_
  show inC (-x) (negC c) = true ↔ _
  rw [inC_iff, inC_iff]
  simp only [negC]
  omega
theorem low_neg {l : List Cd} {need : Nat} (h0 : 0 < need) : lowO (l.map negC) need = (highO l need).map fun b => -b := by
  refine Option.ext fun a => ?_
  rw [low_iff h0, Option.map_eq_some_iff]
  constructor
  · rintro ⟨h1, h2⟩
    refine ⟨-a, (high_iff h0 _).2 ⟨?_, fun x hx => ?_⟩, by omega⟩
    · rw [← dep_neg, Int.neg_neg]
      exact h1
    · have := h2 (-x) (by rw [dep_neg]; exact hx)
      omega
  · rintro ⟨b, hb, rfl⟩
    obtain ⟨h1, h2⟩ := (high_iff h0 b).1 hb
    refine ⟨by rw [dep_neg]; exact h1, fun x hx => ?_⟩
    have := h2 (-x) (by rw [← dep_neg, Int.neg_neg]; exact hx)
    omega
/-- Going down. -/
theorem reach_dn {l : List Cd} (ok : ∀ c ∈ l, c.Ok) {E : List Eg} (h : IsEdges l E) {need : Nat} (h0 : 0 < need) :
    reachF need 0 (dnL E) = (highO l need).map fun b => ⟨b, 1⟩ := by
  rw [dn_neg, reach_map, reach_up (neg_ok ok) (neg_edges h) h0, low_neg h0]
  cases highO l need with
  | none => rfl
  | some b =>
    refine congrArg some (Eg.ext' ?_ ?_)
    · simp [negE]
    · simp [negE]
theorem high_edge {l : List Cd} {E : List Eg} (h : IsEdges l E) {need : Nat} {b : Int} (hl : highO l need = some b) : (⟨b, 1⟩ : Eg) ∈ E := by
  obtain ⟨c, hc, rfl⟩ := high_mem hl
  exact h.perm.mem_iff.2 (List.mem_flatMap.2 ⟨c, hc, by simp [edgesOf]⟩)
theorem pass_dn {l : List Cd} (ok : ∀ c ∈ l, c.Ok) {E : List Eg} (h : IsEdges l E) {b : Int} (hb : (⟨b, 1⟩ : Eg) ∈ E) : passF ⟨b, 1⟩ (dnL E) = midsHi l b := by
  have e : (⟨b, 1⟩ : Eg) = negE ⟨-b, -1⟩ := Eg.ext' (by simp [negE]) (by simp [negE])
  rw [dn_neg, e, pass_map, pass_up (neg_ok ok) (neg_edges h)]
  · unfold midsLo midsHi
    rw [List.countP_map]
    refine List.countP_congr fun c _ => ?_
    simp [negC]
  · refine List.mem_map.2 ⟨⟨b, 1⟩, by simpa using hb, Eg.ext' rfl rfl⟩
end Go.Proofs.Ytkbjmcgnjhpkiaa.W
