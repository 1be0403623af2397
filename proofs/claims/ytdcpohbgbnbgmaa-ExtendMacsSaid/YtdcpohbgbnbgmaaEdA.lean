/- Layer 6 as lists of bytes: fields behind a header, walked and joined. No program in it. -/
import Derived.Test.YtdcpohbgbnbgmaaHdB
namespace Go.Proofs.Ytdcpohbgbnbgmaa.W
open Go.RowKit
set_option linter.unusedVariables false
/-- A field. -/
structure Fd where
  ty : Int
  body : List UInt8
def macN (n : Nat) : Bool := n == 0 || n == 4 || n == 20 || n == 24
def fdEnc (f : Fd) : List UInt8 := be 2 f.ty ++ be 2 ((f.body.length : Int) + 4) ++ f.body
def fdOk (f : Fd) : Bool := decide (0 ≤ f.ty) && decide (f.ty ≤ 65535) && decide (12 ≤ f.body.length) && decide (f.body.length ≤ 65528) && f.body.length % 4 == 0
def fdJoin (l : List Fd) : List UInt8 := l.flatMap fdEnc
/-- The length that the field ahead says. -/
def fdLen (s : List UInt8) : Nat := (num (cut s 2 4)).toNat
def fdBad (s : List UInt8) : Bool := decide (fdLen s < 16) || !(fdLen s % 4 == 0) || decide (s.length < fdLen s)
def fdHead (s : List UInt8) : Fd := ⟨num (cut s 0 2), cut s 4 (fdLen s)⟩
/-- The walk, so many steps at most. -/
def wk : Nat → List UInt8 → Option (List Fd × List UInt8)
  | 0, _ => none
  | k + 1, s =>
    if s.length ≤ 24 then (if macN s.length then some ([], s) else none)
    else if fdBad s then none
    else match wk k (s.drop (fdLen s)) with
      | none => none
      | some (l, m) => some (fdHead s :: l, m)
theorem fd_good {s : List UInt8} (h : fdBad s = false) : 16 ≤ fdLen s ∧ fdLen s % 4 = 0 ∧ fdLen s ≤ s.length := by
  unfold fdBad at h
  simp at h
  omega
theorem fdLen_range (s : List UInt8) (h : 4 ≤ s.length) : num (cut s 2 4) = (fdLen s : Int) ∧ fdLen s < 65536 := by
  have := num_cut s 2 4 h
  simp only [Nat.reduceSub, Int.reducePow] at this
  unfold fdLen
  omega
theorem wk_succ (k : Nat) (s : List UInt8) : wk (k + 1) s =
    if s.length ≤ 24 then (if macN s.length then some ([], s) else none)
    else if fdBad s then none
    else match wk k (s.drop (fdLen s)) with
      | none => none
      | some (l, m) => some (fdHead s :: l, m) := rfl
/-- More steps than needed do no harm. -/
theorem wk_more (k : Nat) : ∀ (j : Nat) (s : List UInt8), s.length < 16 * k + 16 → k ≤ j → wk (k + 1) s = wk (j + 1) s := by
  induction k with
  | zero =>
    intro j s hs _
    have h24 : s.length ≤ 24 := by omega
    rw [wk_succ, wk_succ, if_pos h24, if_pos h24]
  | succ k ih =>
    intro j s hs hj
    obtain ⟨j, rfl⟩ : ∃ i, j = i + 1 := ⟨j - 1, by omega⟩
    rw [wk_succ (k + 1), wk_succ (j + 1)]
    by_cases h : s.length ≤ 24
    · rw [if_pos h, if_pos h]
    · rw [if_neg h, if_neg h]
      by_cases hb : fdBad s = true
      · rw [if_pos hb, if_pos hb]
      · obtain ⟨g1, g2, g3⟩ := fd_good (by simpa using hb)
        rw [if_neg hb, if_neg hb, ih j (s.drop (fdLen s)) (by rw [List.length_drop]; omega) (by omega)]
def walkL (s : List UInt8) : Option (List Fd × List UInt8) := wk (s.length + 1) s
theorem walkL_step (s : List UInt8) : walkL s =
    if s.length ≤ 24 then (if macN s.length then some ([], s) else none)
    else if fdBad s then none
    else match walkL (s.drop (fdLen s)) with
      | none => none
      | some (l, m) => some (fdHead s :: l, m) := by
  unfold walkL
  by_cases h : s.length ≤ 24
  · rw [wk_succ, if_pos h, if_pos h]
  · by_cases hb : fdBad s = true
    · rw [wk_succ, if_neg h, if_neg h, if_pos hb, if_pos hb]
    · obtain ⟨g1, g2, g3⟩ := fd_good (by simpa using hb)
      rw [wk_succ, if_neg h, if_neg h, if_neg hb, if_neg hb]
      have e := wk_more (s.drop (fdLen s)).length (s.length - 1) (s.drop (fdLen s)) (by omega) (by rw [List.length_drop]; omega)
      rw [e, show s.length - 1 + 1 = s.length by omega]
theorem fdHead_enc (s : List UInt8) (h : 24 < s.length) (hb : fdBad s = false) : fdEnc (fdHead s) = s.take (fdLen s) ∧ fdOk (fdHead s) = true := by
  obtain ⟨g1, g2, g3⟩ := fd_good hb
  obtain ⟨e1, e2⟩ := fdLen_range s (by omega)
  have c1 := be_of (cut s 0 2) 2 (cut_length s 0 2 (by omega))
  have c2 := be_of (cut s 2 4) 2 (cut_length s 2 4 (by omega))
  have hl : (cut s 4 (fdLen s)).length = fdLen s - 4 := cut_length s 4 _ g3
  have n1 := num_cut s 0 2 (by omega)
  simp only [Nat.sub_zero, Int.reducePow] at n1
  refine ⟨?_, ?_⟩
  · unfold fdEnc fdHead
    simp only []
    rw [hl, show ((fdLen s - 4 : Nat) : Int) + 4 = num (cut s 2 4) by omega, c1, c2]
    have z := cut_next s 0 2 (by omega)
    simp only [List.take_zero, List.nil_append] at z
    rw [z, cut_next s 2 4 (by omega), cut_next s 4 _ (by omega)]
  · unfold fdOk fdHead
    simp only []
    rw [hl]
    simp
    omega
/-- What was walked is joined to the same bytes; each field may be. -/
theorem walk_join (k : Nat) : ∀ (s : List UInt8) (l : List Fd) (m : List UInt8), wk k s = some (l, m) → fdJoin l ++ m = s ∧ (∀ f ∈ l, fdOk f = true) ∧ macN m.length = true := by
  induction k with
  | zero => intro s l m h; simp [wk] at h
  | succ k ih =>
    intro s l m h
    rw [wk_succ] at h
    by_cases h1 : s.length ≤ 24
    · rw [if_pos h1] at h
      by_cases h2 : macN s.length = true
      · rw [if_pos h2] at h
        simp at h
        obtain ⟨rfl, rfl⟩ := h
        exact ⟨rfl, by simp, h2⟩
      · rw [if_neg h2] at h
        cases h
    · rw [if_neg h1] at h
      by_cases hb : fdBad s = true
      · rw [if_pos hb] at h
        cases h
      · rw [if_neg hb] at h
        have hb' : fdBad s = false := by simpa using hb
        obtain ⟨e1, e2⟩ := fdHead_enc s (by omega) hb'
        cases hw : wk k (s.drop (fdLen s)) with
        | none => rw [hw] at h; cases h
        | some p =>
          obtain ⟨l', m'⟩ := p
          rw [hw] at h
          simp at h
          obtain ⟨rfl, rfl⟩ := h
          obtain ⟨j1, j2, j3⟩ := ih _ _ _ hw
          refine ⟨?_, ?_, j3⟩
          · unfold fdJoin at *
            rw [List.flatMap_cons, List.append_assoc, j1, e1, List.take_append_drop]
          · intro f hf
            rcases List.mem_cons.1 hf with rfl | hf
            · exact e2
            · exact j2 f hf
/-- What joining comes to: the bytes, or nothing. -/
def joinOk (l : List Fd) (m : List UInt8) : Prop := (∀ f ∈ l, fdOk f = true) ∧ macN m.length = true ∧ walkL (fdJoin l ++ m) = some (l, m)
theorem join_of_walk {s : List UInt8} {l : List Fd} {m : List UInt8} (h : walkL s = some (l, m)) : joinOk l m ∧ fdJoin l ++ m = s := by
  obtain ⟨h1, h2, h3⟩ := walk_join _ _ _ _ h
  exact ⟨⟨h2, h3, by rw [h1]; exact h⟩, h1⟩
theorem fdEnc_length (f : Fd) : (fdEnc f).length = f.body.length + 4 := by
  unfold fdEnc
  rw [List.length_append, List.length_append, be_length, be_length]
  omega
theorem cut_append_left (a b : List UInt8) (i j : Nat) (h : j ≤ a.length) : cut (a ++ b) i j = cut a i j := by
  unfold cut
  by_cases hi : i ≤ a.length
  · rw [List.drop_append_of_le_length hi, List.take_append_of_le_length (by rw [List.length_drop]; omega)]
  · rw [show j - i = 0 by omega, List.take_zero, List.take_zero]
/-- A field that may be, ahead of what is left: it is walked first. -/
theorem fd_first (f : Fd) (s : List UInt8) (h : fdOk f = true) : fdLen (fdEnc f ++ s) = f.body.length + 4 ∧ fdHead (fdEnc f ++ s) = f ∧ fdBad (fdEnc f ++ s) = false ∧ (fdEnc f ++ s).drop (f.body.length + 4) = s := by
  have hl := fdEnc_length f
  unfold fdOk at h
  simp at h
  have hb2 : ∀ x : Int, (be 2 x).length = 2 := fun x => be_length 2 x
  have k1 : cut (fdEnc f ++ s) 0 2 = be 2 f.ty := by
    rw [cut_append_left _ _ _ _ (by omega)]
    unfold fdEnc
    rw [List.append_assoc, cut_append_left _ _ _ _ (by rw [hb2]; omega)]
    unfold cut
    rw [List.drop_zero, List.take_of_length_le (by rw [hb2]; omega)]
  have k2 : cut (fdEnc f ++ s) 2 4 = be 2 ((f.body.length : Int) + 4) := by
    rw [cut_append_left _ _ _ _ (by omega)]
    unfold fdEnc
    rw [cut_append_left _ _ _ _ (by rw [List.length_append, hb2, hb2]; omega)]
    unfold cut
    rw [List.drop_append_of_le_length (by rw [hb2]; omega), List.drop_of_length_le (by rw [hb2]; omega), List.nil_append, List.take_of_length_le (by rw [hb2]; omega)]
  have e : fdLen (fdEnc f ++ s) = f.body.length + 4 := by
    unfold fdLen
    rw [k2, num_be, Int.emod_eq_of_lt (by omega) (by simp only [Int.reducePow]; omega)]
    omega
  have k3 : cut (fdEnc f ++ s) 4 (f.body.length + 4) = f.body := by
    rw [cut_append_left _ _ _ _ (by omega)]
    unfold fdEnc cut
    rw [List.drop_append_of_le_length (by rw [List.length_append, hb2, hb2]; omega), List.drop_of_length_le (by rw [List.length_append, hb2, hb2]; omega), List.nil_append, List.take_of_length_le (by omega)]
  refine ⟨e, ?_, ?_, ?_⟩
  · unfold fdHead
    rw [e, k1, k3, num_be, Int.emod_eq_of_lt (by omega) (by simp only [Int.reducePow]; omega)]
  · unfold fdBad
    rw [e]
    simp [List.length_append, hl]
    omega
  · rw [List.drop_append_of_le_length (by omega), List.drop_of_length_le (by omega)]
    rfl
theorem walk_cons (f : Fd) (s : List UInt8) (h : fdOk f = true) (hs : 20 < f.body.length + s.length) : walkL (fdEnc f ++ s) = match walkL s with | none => none | some (l, m) => some (f :: l, m) := by
  obtain ⟨e1, e2, e3, e4⟩ := fd_first f s h
  rw [walkL_step, if_neg (by rw [List.length_append, fdEnc_length]; omega), if_neg (by rw [e3]; decide), e1, e2, e4]
/-- What is cut off has no more fields. -/
theorem wk_take (k : Nat) : ∀ (j c : Nat) (s : List UInt8) (l x : List Fd) (m y : List UInt8), wk k s = some (l, m) → wk j (s.take c) = some (x, y) → x.length ≤ l.length := by
  induction k with
  | zero => intro j c s l x m y h; simp [wk] at h
  | succ k ih =>
    intro j c s l x m y h hx
    cases j with
    | zero => simp [wk] at hx
    | succ j =>
      rw [wk_succ] at h hx
      by_cases h1 : (s.take c).length ≤ 24
      · rw [if_pos h1] at hx
        by_cases h2 : macN (s.take c).length = true
        · rw [if_pos h2] at hx
          simp at hx
          obtain ⟨rfl, _⟩ := hx
          simp
        · rw [if_neg h2] at hx
          cases hx
      · have hc : (s.take c).length = min c s.length := List.length_take
        rw [if_neg h1] at hx
        rw [if_neg (by omega)] at h
        have hn : fdLen (s.take c) = fdLen s := by
          unfold fdLen cut
          rw [List.drop_take, List.take_take, Nat.min_eq_left (by omega)]
        by_cases hb : fdBad s = true
        · rw [if_pos hb] at h
          cases h
        · rw [if_neg hb] at h
          by_cases hb2 : fdBad (s.take c) = true
          · rw [if_pos hb2] at hx
            cases hx
          · rw [if_neg hb2, hn, List.drop_take] at hx
            cases hw : wk k (s.drop (fdLen s)) with
            | none => rw [hw] at h; cases h
            | some p =>
              cases hv : wk j ((s.drop (fdLen s)).take (c - fdLen s)) with
              | none => rw [hv] at hx; cases hx
              | some q =>
                rw [hw] at h
                rw [hv] at hx
                obtain ⟨l', m'⟩ := p
                obtain ⟨x', y'⟩ := q
                simp at h hx
                obtain ⟨rfl, _⟩ := h
                obtain ⟨rfl, _⟩ := hx
                have := ih _ _ _ _ _ _ _ hw hv
                simpa using this
end Go.Proofs.Ytdcpohbgbnbgmaa.W
