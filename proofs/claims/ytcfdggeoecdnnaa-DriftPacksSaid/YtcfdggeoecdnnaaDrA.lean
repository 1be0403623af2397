/- Layer 9 as bytes: slots, and a disk whose power may go. No program in it. -/
import Derived.Test.YtcfdggeoecdnnaaHdA
namespace Go.Proofs.Ytcfdggeoecdnnaa.W
open Go.RowKit
set_option linter.unusedVariables false
/-- A frequency as a uint64, and back. -/
def fu (f : Int) : Int := f % 18446744073709551616
def fi (u : Int) : Int := if u < 9223372036854775808 then u else u - 18446744073709551616
theorem fi_fu (f : Int) (h0 : -9223372036854775808 ≤ f) (h1 : f ≤ 9223372036854775807) : fi (fu f) = f := by unfold fi fu; split <;> omega
theorem fu_fi (u : Int) (h0 : 0 ≤ u) (h1 : u < 18446744073709551616) : fu (fi u) = u := by unfold fi fu; split <;> omega
theorem fu_range (f : Int) : 0 ≤ fu f ∧ fu f < 18446744073709551616 := by unfold fu; omega
theorem fi_range (u : Int) (h0 : 0 ≤ u) (h1 : u < 18446744073709551616) : -9223372036854775808 ≤ fi u ∧ fi u ≤ 9223372036854775807 := by unfold fi; split <;> omega
def sumW : Int → List UInt8 → Int
  | _, [] => 0
  | k, b :: l => k * (b.toNat : Int) + sumW (k + 1) l
def sumA : List UInt8 → Int
  | [] => 0
  | b :: l => (b.toNat : Int) + sumA l
def sumB (l : List UInt8) : Int := sumW 1 l
theorem sumA_set : ∀ (l : List UInt8) (i : Nat) (x y : UInt8), l[i]? = some y → sumA (l.set i x) = sumA l - (y.toNat : Int) + (x.toNat : Int)
  | [], i, x, y, h => by simp at h
  | b :: l, 0, x, y, h => by simp at h; subst h; simp [sumA]; omega
  | b :: l, i + 1, x, y, h => by
    have := sumA_set l i x y (by simpa using h)
    simp [sumA, this]
    omega
def sums (l : List UInt8) : List UInt8 := [b8 (sumA l % 256), b8 (sumB l % 256)]
def body (q f : Int) : List UInt8 := be 4 q ++ be 8 (fu f)
theorem body_length (q f : Int) : (body q f).length = 12 := by simp [body, be_length]
def pack (q f : Int) : List UInt8 := 1 :: (body q f ++ sums (body q f) ++ [0])
theorem pack_length (q f : Int) : (pack q f).length = 16 := by simp [pack, body_length, sums]
structure Sl where
  whole : Bool
  seq : Int
  freq : Int
def bodyOf (t : List UInt8) : List UInt8 := (t.drop 1).take 12
def seqOf (t : List UInt8) : Int := num ((t.drop 1).take 4)
def freqOf (t : List UInt8) : Int := fi (num ((t.drop 5).take 8))
def slOf (t : List UInt8) : Sl := if t = pack (seqOf t) (freqOf t) then ⟨true, seqOf t, freqOf t⟩ else ⟨false, 0, 0⟩
theorem body_of {t : List UInt8} (h : t.length = 16) : body (seqOf t) (freqOf t) = bodyOf t := by
  have r := num_range ((t.drop 5).take 8)
  have l8 : ((t.drop 5).take 8).length = 8 := by simp; omega
  have l4 : ((t.drop 1).take 4).length = 4 := by simp; omega
  rw [l8] at r
  unfold body seqOf freqOf bodyOf
  rw [fu_fi _ r.1 (by have := r.2; simpa using this), be_of _ 4 l4, be_of _ 8 l8]
  rw [show t.drop 5 = (t.drop 1).drop 4 by rw [List.drop_drop], ← List.take_add]
theorem whole_iff {t : List UInt8} (h : t.length = 16) : (slOf t).whole = true ↔ t = 1 :: (bodyOf t ++ sums (bodyOf t) ++ [0]) := by
  unfold slOf pack
  rw [body_of h]
  split
  · rename_i e; exact ⟨fun _ => e, fun _ => rfl⟩
  · rename_i e; exact ⟨fun h => (by cases h), fun h => absurd h e⟩
theorem sl_whole {t : List UInt8} (h : (slOf t).whole = true) : t = pack (slOf t).seq (slOf t).freq := by
  unfold slOf at *
  split at h
  · rename_i e
    rw [if_pos e]
    exact e
  · cases h
theorem sl_none {t : List UInt8} (h : (slOf t).whole = false) : slOf t = ⟨false, 0, 0⟩ := by
  unfold slOf at *
  split at h
  · cases h
  · rename_i e
    rw [if_neg e]
theorem sl_range (t : List UInt8) (h : t.length = 16) : 0 ≤ (slOf t).seq ∧ (slOf t).seq < 4294967296 ∧ -9223372036854775808 ≤ (slOf t).freq ∧ (slOf t).freq ≤ 9223372036854775807 := by
  unfold slOf
  split
  · have r := num_range ((t.drop 5).take 8)
    have q := num_range ((t.drop 1).take 4)
    have l8 : ((t.drop 5).take 8).length = 8 := by simp; omega
    have l4 : ((t.drop 1).take 4).length = 4 := by simp; omega
    rw [l8] at r
    rw [l4] at q
    have := fi_range _ r.1 (by have := r.2; simpa using this)
    exact ⟨q.1, by have := q.2; simpa [seqOf] using this, this.1, this.2⟩
  · simp
theorem seq_pack (q f : Int) (h0 : 0 ≤ q) (h1 : q < 4294967296) : seqOf (pack q f) = q := by
  unfold seqOf pack body
  rw [List.drop_succ_cons, List.drop_zero, List.append_assoc, List.append_assoc, List.take_left' (be_length 4 q), num_be]
  exact Int.emod_eq_of_lt h0 (by simpa using h1)
theorem freq_pack (q f : Int) (h0 : -9223372036854775808 ≤ f) (h1 : f ≤ 9223372036854775807) : freqOf (pack q f) = f := by
  unfold freqOf pack body
  have hr := fu_range f
  rw [List.drop_succ_cons, List.append_assoc, List.append_assoc, List.drop_left' (be_length 4 q), List.take_left' (be_length 8 _), num_be, Int.emod_eq_of_lt hr.1 (by simpa using hr.2), fi_fu f h0 h1]
theorem sl_pack (q f : Int) (h0 : 0 ≤ q) (h1 : q < 4294967296) (f0 : -9223372036854775808 ≤ f) (f1 : f ≤ 9223372036854775807) : slOf (pack q f) = ⟨true, q, f⟩ := by
  unfold slOf
  rw [seq_pack q f h0 h1, freq_pack q f f0 f1, if_pos rfl]
theorem pack_inj {q r f g : Int} (q0 : 0 ≤ q) (q1 : q < 4294967296) (r0 : 0 ≤ r) (r1 : r < 4294967296) (f0 : -9223372036854775808 ≤ f) (f1 : f ≤ 9223372036854775807) (g0 : -9223372036854775808 ≤ g) (g1 : g ≤ 9223372036854775807) :
    pack q f = pack r g ↔ q = r ∧ f = g := by
  constructor
  · intro h
    have := congrArg slOf h
    rw [sl_pack q f q0 q1 f0 f1, sl_pack r g r0 r1 g0 g1] at this
    simp at this
    exact this
  · rintro ⟨rfl, rfl⟩; rfl
theorem not_whole_head {t : List UInt8} {x : UInt8} (h : t[0]? = some x) (hx : x ≠ 1) : slOf t = ⟨false, 0, 0⟩ := by
  unfold slOf
  split
  · rename_i e
    rw [e] at h
    simp [pack] at h
    exact absurd h.symm hx
  · rfl
theorem b8_inj {x y : Int} (h0 : 0 ≤ x) (h1 : x < 256) (g0 : 0 ≤ y) (g1 : y < 256) (h : b8 x = b8 y) : x = y := by
  have this : (((b8 x).toNat : Nat) : Int) = (((b8 y).toNat : Nat) : Int) := by rw [h]
  rwa [b8_nat x h0 h1, b8_nat y g0 g1] at this
/-- A byte of a whole slot that is another one makes it not whole. -/
theorem spoilt {t : List UInt8} (h : t.length = 16) (hw : (slOf t).whole = true) {j : Nat} {x y : UInt8} (hy : t[j]? = some y) (hx : x ≠ y) : slOf (t.set j x) = ⟨false, 0, 0⟩ := by
  apply sl_none
  rw [Bool.eq_false_iff]
  intro hw'
  have hl : (t.set j x).length = 16 := by simpa using h
  have hj : j < 16 := by have := (List.getElem?_eq_some_iff.1 hy).1; omega
  rw [whole_iff h] at hw
  rw [whole_iff hl] at hw'
  have bl : (bodyOf t).length = 12 := by simp [bodyOf]; omega
  have bl' : (bodyOf (t.set j x)).length = 12 := by simp [bodyOf]; omega
  have hxj : (t.set j x)[j]? = some x := List.getElem?_set_self (by omega)
  have at13 : ∀ u : List UInt8, (bodyOf u).length = 12 → u = 1 :: (bodyOf u ++ sums (bodyOf u) ++ [0]) → u[0]? = some 1 ∧ u[13]? = some (b8 (sumA (bodyOf u) % 256)) ∧ u[14]? = some (b8 (sumB (bodyOf u) % 256)) ∧ u[15]? = some 0 := by
    intro u hb e
    generalize hB : bodyOf u = B at *
    rw [e]
    refine ⟨rfl, ?_, ?_, ?_⟩
    · rw [List.getElem?_cons_succ, List.append_assoc, List.getElem?_append_right (by omega), hb]; rfl
    · rw [List.getElem?_cons_succ, List.append_assoc, List.getElem?_append_right (by omega), hb]; rfl
    · rw [List.getElem?_cons_succ, List.append_assoc, List.getElem?_append_right (by omega), hb]; rfl
  obtain ⟨a0, a13, a14, a15⟩ := at13 t bl hw
  obtain ⟨b0, b13, b14, b15⟩ := at13 _ bl' hw'
  by_cases j0 : j = 0
  · subst j0
    rw [hxj] at b0
    rw [hy] at a0
    cases a0; cases b0
    exact hx rfl
  · by_cases j15 : j = 15
    · subst j15
      rw [hxj] at b15
      rw [hy] at a15
      cases a15; cases b15
      exact hx rfl
    · by_cases jb : j ≤ 12
      · have e1 : bodyOf (t.set j x) = (bodyOf t).set (j - 1) x := by
          apply List.ext_getElem?
          intro k
          unfold bodyOf
          by_cases hk : k < 12
          · rw [List.getElem?_take_of_lt hk, List.getElem?_drop]
            by_cases e : k = j - 1
            · rw [e, List.getElem?_set_self (by simp; omega), show 1 + (j - 1) = j by omega, hxj]
            · rw [List.getElem?_set_ne (by omega), List.getElem?_set_ne (by omega), List.getElem?_take_of_lt hk, List.getElem?_drop]
          · rw [List.getElem?_eq_none (by simp; omega), List.getElem?_eq_none (by simp; omega)]
        have hyb : (bodyOf t)[j - 1]? = some y := by
          unfold bodyOf
          rw [List.getElem?_take_of_lt (by omega), List.getElem?_drop, show 1 + (j - 1) = j by omega, hy]
        have e2 := sumA_set (bodyOf t) (j - 1) x y hyb
        rw [← e1] at e2
        rw [List.getElem?_set_ne (by omega), a13] at b13
        have e3 := b8_inj (Int.emod_nonneg _ (by decide)) (Int.emod_lt_of_pos _ (by decide)) (Int.emod_nonneg _ (by decide)) (Int.emod_lt_of_pos _ (by decide)) (Option.some.inj b13)
        have hxb := byte_lt x
        have hyb := byte_lt y
        have : (x.toNat : Int) = (y.toNat : Int) := by omega
        exact hx (by rw [← b8_of x, this, b8_of])
      · have e1 : bodyOf (t.set j x) = bodyOf t := by
          apply List.ext_getElem?
          intro k
          unfold bodyOf
          by_cases hk : k < 12
          · rw [List.getElem?_take_of_lt hk, List.getElem?_drop, List.getElem?_set_ne (by omega), List.getElem?_take_of_lt hk, List.getElem?_drop]
          · rw [List.getElem?_eq_none (by simp; omega), List.getElem?_eq_none (by simp; omega)]
        rw [e1] at b13 b14
        by_cases j13 : j = 13
        · subst j13
          rw [hxj] at b13
          rw [hy] at a13
          rw [← a13] at b13
          cases b13
          exact hx rfl
        · obtain rfl : j = 14 := by omega
          rw [hxj] at b14
          rw [hy] at a14
          rw [← a14] at b14
          cases b14
          exact hx rfl
def slA (s : List UInt8) : Sl := slOf (s.take 16)
def slB (s : List UInt8) : Sl := slOf ((s.drop 16).take 16)
/-- The newest slot's place; below 0: there is none. -/
def newest (a b : Sl) : Int :=
  if a.whole then (if b.whole then (if 0 < (b.seq - a.seq) % 4294967296 ∧ (b.seq - a.seq) % 4294967296 < 2147483648 then 1 else 0) else 0)
  else if b.whole then 1 else -1
def loadV (s : List UInt8) : Int := if newest (slA s) (slB s) = 0 then (slA s).freq else if newest (slA s) (slB s) = 1 then (slB s).freq else 0
def loadB (s : List UInt8) : Bool := decide (0 ≤ newest (slA s) (slB s))
def target (s : List UInt8) : Nat := if newest (slA s) (slB s) = 0 then 16 else 0
def nextSeq (s : List UInt8) : Int := if newest (slA s) (slB s) = 0 then ((slA s).seq + 1) % 4294967296 else if newest (slA s) (slB s) = 1 then ((slB s).seq + 1) % 4294967296 else 1
def packS (s : List UInt8) (f : Int) : List UInt8 := pack (nextSeq s) f
theorem nextSeq_range (s : List UInt8) : 0 ≤ nextSeq s ∧ nextSeq s < 4294967296 := by
  unfold nextSeq
  split
  · omega
  · split <;> omega
theorem new_cases (a b : Sl) : newest a b = 0 ∨ newest a b = 1 ∨ newest a b = -1 := by
  unfold newest
  split
  · split
    · split <;> simp
    · simp
  · split <;> simp
theorem new_none {a b : Sl} (h : newest a b = -1) : a.whole = false ∧ b.whole = false := by
  unfold newest at h
  cases ha : a.whole <;> cases hb : b.whole <;> rw [ha, hb] at h
  · exact ⟨rfl, rfl⟩
  · cases h
  · cases h
  · simp at h
    split at h <;> cases h
theorem target_cases (s : List UInt8) : target s = 0 ∨ target s = 16 := by unfold target; split <;> simp
/-- Writes, byte by byte. -/
def wsFrom : Nat → List UInt8 → List (Nat × UInt8)
  | _, [] => []
  | n, b :: l => (n, b) :: wsFrom (n + 1) l
def puts (s : List UInt8) (ws : List (Nat × UInt8)) : List UInt8 := ws.foldl (fun s x => s.set x.1 x.2) s
/-- A Save's writes: the mark alone, what is behind it, the mark alone. -/
def saveW (at_ : Nat) (p : List UInt8) : List (Nat × UInt8) := (at_, 0) :: (wsFrom (at_ + 1) (p.drop 1) ++ [(at_, 1)])
theorem wsFrom_length (n : Nat) (l : List UInt8) : (wsFrom n l).length = l.length := by
  induction l generalizing n with
  | nil => rfl
  | cons b l ih => simp [wsFrom, ih]
theorem wsFrom_take (n k : Nat) (l : List UInt8) : (wsFrom n l).take k = wsFrom n (l.take k) := by
  induction l generalizing n k with
  | nil => simp [wsFrom]
  | cons b l ih =>
    cases k with
    | zero => simp [wsFrom]
    | succ k => simp [wsFrom, ih]
theorem puts_length (s : List UInt8) (ws : List (Nat × UInt8)) : (puts s ws).length = s.length := by
  unfold puts
  induction ws generalizing s with
  | nil => rfl
  | cons x ws ih => rw [List.foldl_cons, ih]; simp
theorem puts_append (s : List UInt8) (a b : List (Nat × UInt8)) : puts s (a ++ b) = puts (puts s a) b := by simp [puts, List.foldl_append]
theorem puts_far (s : List UInt8) (n : Nat) (l : List UInt8) (k : Nat) (h : k < n ∨ n + l.length ≤ k) : (puts s (wsFrom n l))[k]? = s[k]? := by
  induction l generalizing s n with
  | nil => rfl
  | cons b l ih =>
    simp only [List.length_cons] at h
    show (puts (s.set n b) (wsFrom (n + 1) l))[k]? = _
    rw [ih _ _ (by omega), List.getElem?_set_ne (by omega)]
theorem puts_at (s : List UInt8) (n : Nat) (l : List UInt8) (k : Nat) (h : n + l.length ≤ s.length) (h1 : n ≤ k) (h2 : k < n + l.length) : (puts s (wsFrom n l))[k]? = l[k - n]? := by
  induction l generalizing s n with
  | nil => simp at h2; omega
  | cons b l ih =>
    simp only [List.length_cons] at h h2
    show (puts (s.set n b) (wsFrom (n + 1) l))[k]? = _
    by_cases e : k = n
    · subst e
      rw [puts_far _ _ _ _ (by omega), List.getElem?_set_self (by omega)]
      simp
    · rw [ih _ _ (by simp; omega) (by omega) (by omega)]
      rw [show k - n = (k - (n + 1)) + 1 by omega, List.getElem?_cons_succ]
def put16 (s : List UInt8) (at_ : Nat) (p : List UInt8) : List UInt8 := s.take at_ ++ p ++ s.drop (at_ + 16)
theorem saveW_length {at_ : Nat} {p : List UInt8} (hp : p.length = 16) : (saveW at_ p).length = 17 := by simp [saveW, wsFrom_length, hp]
/-- All seventeen bytes are written. -/
theorem save_all {s : List UInt8} {at_ : Nat} {p : List UInt8} (hs : s.length = 32) (ha : at_ = 0 ∨ at_ = 16) (hp : p.length = 16) (h1 : p[0]? = some 1) : puts s (saveW at_ p) = put16 s at_ p := by
  have l15 : (p.drop 1).length = 15 := by simp; omega
  apply List.ext_getElem?
  intro k
  unfold saveW put16
  show (puts (s.set at_ 0) (wsFrom (at_ + 1) (p.drop 1) ++ [(at_, 1)]))[k]? = _
  rw [puts_append]
  show ((puts (s.set at_ 0) (wsFrom (at_ + 1) (p.drop 1))).set at_ 1)[k]? = _
  have hl : (s.take at_).length = at_ := by simp; omega
  by_cases e : k = at_
  · subst e
    rw [List.getElem?_set_self (by rw [puts_length]; simp; omega), List.append_assoc, List.getElem?_append_right (by omega), hl, Nat.sub_self, List.getElem?_append_left (by omega), h1]
  · rw [List.getElem?_set_ne (fun h => e h.symm)]
    by_cases h2 : k < at_
    · rw [puts_far _ _ _ _ (by omega), List.getElem?_set_ne (by omega), List.append_assoc, List.getElem?_append_left (by omega), List.getElem?_take_of_lt h2]
    · by_cases h3 : k < at_ + 16
      · rw [puts_at _ _ _ _ (by simp; omega) (by omega) (by omega), List.append_assoc, List.getElem?_append_right (by omega), hl, List.getElem?_append_left (by omega), List.getElem?_drop]
        congr 1
        omega
      · rw [puts_far _ _ _ _ (by omega), List.getElem?_set_ne (by omega), List.getElem?_append_right (by simp; omega), List.getElem?_drop]
        congr 1
        simp
        omega
/-- The power goes behind k bytes of seventeen: the mark is gone, and the other slot stands. -/
theorem save_part {s : List UInt8} {at_ : Nat} {p : List UInt8} (hs : s.length = 32) (ha : at_ = 0 ∨ at_ = 16) (hp : p.length = 16) {k : Nat} (k0 : 0 < k) (k1 : k < 17) :
    (puts s ((saveW at_ p).take k))[at_]? = some 0 ∧ ∀ j, j < at_ ∨ at_ + 16 ≤ j → (puts s ((saveW at_ p).take k))[j]? = s[j]? := by
  obtain ⟨k, rfl⟩ : ∃ m, k = m + 1 := ⟨k - 1, by omega⟩
  have l15 : (p.drop 1).length = 15 := by simp; omega
  have e : (saveW at_ p).take (k + 1) = (at_, 0) :: wsFrom (at_ + 1) ((p.drop 1).take k) := by
    unfold saveW
    rw [List.take_succ_cons, List.take_append_of_le_length (by rw [wsFrom_length]; omega), wsFrom_take]
  rw [e]
  have lk : ((p.drop 1).take k).length = k := by rw [List.length_take]; omega
  constructor
  · show (puts (s.set at_ 0) (wsFrom (at_ + 1) ((p.drop 1).take k)))[at_]? = _
    rw [puts_far _ _ _ _ (by omega), List.getElem?_set_self (by omega)]
  · intro j hj
    show (puts (s.set at_ 0) (wsFrom (at_ + 1) ((p.drop 1).take k)))[j]? = _
    rw [puts_far _ _ _ _ (by omega), List.getElem?_set_ne (by omega)]
theorem slA_of {s t : List UInt8} (h : ∀ j, j < 16 → t[j]? = s[j]?) : slA t = slA s := by
  unfold slA
  congr 1
  apply List.ext_getElem?
  intro k
  by_cases hk : k < 16
  · rw [List.getElem?_take_of_lt hk, List.getElem?_take_of_lt hk, h k hk]
  · rw [List.getElem?_eq_none (by simp; omega), List.getElem?_eq_none (by simp; omega)]
theorem slB_of {s t : List UInt8} (h : ∀ j, 16 ≤ j → t[j]? = s[j]?) : slB t = slB s := by
  unfold slB
  congr 2
  apply List.ext_getElem?
  intro k
  rw [List.getElem?_drop, List.getElem?_drop, h _ (by omega)]
theorem slA_head {t : List UInt8} {x : UInt8} (h : t[0]? = some x) (hx : x ≠ 1) : slA t = ⟨false, 0, 0⟩ :=
  not_whole_head (x := x) (by rw [List.getElem?_take_of_lt (by decide)]; exact h) hx
theorem slB_head {t : List UInt8} {x : UInt8} (h : t[16]? = some x) (hx : x ≠ 1) : slB t = ⟨false, 0, 0⟩ :=
  not_whole_head (x := x) (by rw [List.getElem?_take_of_lt (by decide), List.getElem?_drop]; exact h) hx
theorem put_slots {s : List UInt8} {p : List UInt8} (hs : s.length = 32) (hp : p.length = 16) : slA (put16 s 0 p) = slOf p ∧ slB (put16 s 0 p) = slB s ∧ slA (put16 s 16 p) = slA s ∧ slB (put16 s 16 p) = slOf p := by
  unfold put16 slA slB
  refine ⟨?_, ?_, ?_, ?_⟩
  · rw [List.take_zero, List.nil_append, List.take_left' hp]
  · rw [List.take_zero, List.nil_append, List.drop_left' hp]
  · rw [List.append_assoc, List.take_left' (by simp; omega)]
  · rw [List.append_assoc, List.drop_left' (by simp; omega), List.take_left' hp]
/-- What was saved is loaded. -/
theorem save_load {s : List UInt8} (hs : s.length = 32) (f : Int) (f0 : -9223372036854775808 ≤ f) (f1 : f ≤ 9223372036854775807) : loadV (put16 s (target s) (packS s f)) = f ∧ loadB (put16 s (target s) (packS s f)) = true := by
  obtain ⟨q0, q1⟩ := nextSeq_range s
  have hp : (packS s f).length = 16 := pack_length _ _
  have hsl : slOf (packS s f) = ⟨true, nextSeq s, f⟩ := sl_pack _ _ q0 q1 f0 f1
  obtain ⟨e1, e2, e3, e4⟩ := put_slots hs hp
  rw [hsl] at e1 e4
  rcases new_cases (slA s) (slB s) with h | h | h
  · have ht : target s = 16 := by unfold target; rw [if_pos h]
    have hq : nextSeq s = ((slA s).seq + 1) % 4294967296 := by unfold nextSeq; rw [if_pos h]
    have hw : (slA s).whole = true := by
      unfold newest at h
      split at h
      · assumption
      · split at h <;> cases h
    have hn : newest (slA (put16 s 16 (packS s f))) (slB (put16 s 16 (packS s f))) = 1 := by
      rw [e3, e4]
      unfold newest
      rw [if_pos hw, if_pos rfl, if_pos]
      simp only []
      omega
    rw [ht]
    unfold loadV loadB
    rw [hn, e4]
    exact ⟨rfl, rfl⟩
  · have ht : target s = 0 := by unfold target; rw [if_neg (by omega)]
    have hq : nextSeq s = ((slB s).seq + 1) % 4294967296 := by unfold nextSeq; rw [if_neg (by omega), if_pos h]
    have hw : (slB s).whole = true := by
      unfold newest at h
      split at h
      · split at h
        · assumption
        · cases h
      · split at h
        · assumption
        · cases h
    have hn : newest (slA (put16 s 0 (packS s f))) (slB (put16 s 0 (packS s f))) = 0 := by
      rw [e1, e2]
      unfold newest
      rw [if_pos rfl, if_pos hw, if_neg]
      simp only []
      omega
    rw [ht]
    unfold loadV loadB
    rw [hn, e1]
    exact ⟨rfl, rfl⟩
  · have ht : target s = 0 := by unfold target; rw [if_neg (by omega)]
    have hw : (slB s).whole = false := (new_none h).2
    have hn : newest (slA (put16 s 0 (packS s f))) (slB (put16 s 0 (packS s f))) = 0 := by
      rw [e1, e2]
      unfold newest
      rw [if_pos rfl, hw]
      rfl
    rw [ht]
    unfold loadV loadB
    rw [hn, e1]
    exact ⟨rfl, rfl⟩
/-- The power goes: what was there ahead is loaded. -/
theorem cut_load {s : List UInt8} (hs : s.length = 32) (f : Int) {k : Nat} (k1 : k < 17) : loadV (puts s ((saveW (target s) (packS s f)).take k)) = loadV s ∧ loadB (puts s ((saveW (target s) (packS s f)).take k)) = loadB s := by
  by_cases k0 : k = 0
  · subst k0
    exact ⟨rfl, rfl⟩
  · have hp : (packS s f).length = 16 := pack_length _ _
    obtain ⟨h1, h2⟩ := save_part hs (target_cases s) hp (k := k) (by omega) k1
    generalize puts s ((saveW (target s) (packS s f)).take k) = t at *
    rcases new_cases (slA s) (slB s) with h | h | h
    · have ht : target s = 16 := by unfold target; rw [if_pos h]
      rw [ht] at h1 h2
      have eA : slA t = slA s := slA_of fun j hj => h2 j (.inl hj)
      have eB : slB t = ⟨false, 0, 0⟩ := slB_head h1 (by decide)
      have hw : (slA s).whole = true := by
        unfold newest at h
        split at h
        · assumption
        · split at h <;> cases h
      have hn : newest (slA t) (slB t) = 0 := by
        rw [eA, eB]
        unfold newest
        rw [if_pos hw]
        rfl
      unfold loadV loadB
      rw [hn, h, eA]
      exact ⟨rfl, rfl⟩
    · have ht : target s = 0 := by unfold target; rw [if_neg (by omega)]
      rw [ht] at h1 h2
      have eB : slB t = slB s := slB_of fun j hj => h2 j (.inr (by omega))
      have eA : slA t = ⟨false, 0, 0⟩ := slA_head h1 (by decide)
      have hw : (slB s).whole = true := by
        unfold newest at h
        split at h
        · split at h
          · assumption
          · cases h
        · split at h
          · assumption
          · cases h
      have hn : newest (slA t) (slB t) = 1 := by
        rw [eA, eB]
        unfold newest
        rw [hw]
        rfl
      unfold loadV loadB
      rw [hn, h, eB]
      exact ⟨rfl, rfl⟩
    · have ht : target s = 0 := by unfold target; rw [if_neg (by omega)]
      rw [ht] at h1 h2
      have eB : slB t = slB s := slB_of fun j hj => h2 j (.inr (by omega))
      have eA : slA t = ⟨false, 0, 0⟩ := slA_head h1 (by decide)
      have hw : (slB s).whole = false := (new_none h).2
      have hn : newest (slA t) (slB t) = -1 := by
        rw [eA, eB]
        unfold newest
        rw [hw]
        rfl
      unfold loadV loadB
      rw [hn, h]
      exact ⟨rfl, rfl⟩
/-- A disk: its bytes; how many more may be written (below 0: any many); is it dead. -/
structure Dk where
  s : List UInt8
  left : Int
  off : Bool
structure Dk.Ok (d : Dk) : Prop where
  s : d.s.length = 32
  left : -1 ≤ d.left ∧ d.left ≤ 9223372036854775807
def newD (s : List UInt8) : Dk := ⟨(s ++ List.replicate 32 0).take 32, -1, false⟩
def cutD (d : Dk) (n : Int) : Dk := ⟨d.s, max n 0, d.off⟩
def savE (d : Dk) : Int := if d.off then 90 else if d.left < 0 ∨ 17 ≤ d.left then 0 else 90
def savD (d : Dk) (f : Int) : Dk :=
  if d.off then d
  else if d.left < 0 then ⟨put16 d.s (target d.s) (packS d.s f), d.left, false⟩
  else if 17 ≤ d.left then ⟨put16 d.s (target d.s) (packS d.s f), d.left - 17, false⟩
  else ⟨puts d.s ((saveW (target d.s) (packS d.s f)).take d.left.toNat), 0, true⟩
theorem newD_ok (s : List UInt8) : (newD s).Ok := ⟨by simp [newD], by simp [newD]⟩
theorem newD_same {s : List UInt8} (h : s.length = 32) : newD s = ⟨s, -1, false⟩ := by
  unfold newD
  rw [List.take_left' h]
theorem put16_length {s : List UInt8} {at_ : Nat} {p : List UInt8} (hs : s.length = 32) (ha : at_ = 0 ∨ at_ = 16) (hp : p.length = 16) : (put16 s at_ p).length = 32 := by
  unfold put16
  simp
  omega
theorem sav_ok {d : Dk} (h : d.Ok) (f : Int) : (savD d f).Ok := by
  have hl := h.left
  unfold savD
  split
  · exact h
  · split
    · exact ⟨put16_length h.s (target_cases _) (pack_length _ _), h.left⟩
    · split
      · exact ⟨put16_length h.s (target_cases _) (pack_length _ _), by simp only []; omega⟩
      · exact ⟨by rw [puts_length]; exact h.s, by simp⟩
theorem cut_ok {d : Dk} (h : d.Ok) (n : Int) (hn : n ≤ 9223372036854775807) : (cutD d n).Ok := ⟨h.s, by simp only [cutD]; omega⟩
end Go.Proofs.Ytcfdggeoecdnnaa.W
