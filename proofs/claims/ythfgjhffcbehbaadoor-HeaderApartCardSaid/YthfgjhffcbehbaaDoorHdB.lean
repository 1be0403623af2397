/- Headers as records of whole numbers, and their bytes. No program in it. -/
import Derived.Test.YthfgjhffcbehbaaDoorHdA
namespace Go.Proofs.YthfgjhffcbehbaaDoor.W
open Go.RowKit
set_option linter.unusedVariables false
structure Hd where
  leap : Int
  ver : Int
  mode : Int
  str : Int
  poll : Int
  prec : Int
  rdel : Int
  rdis : Int
  ref : Int
  reft : Int
  org : Int
  rcv : Int
  tx : Int
/-- What its types let a header be. -/
structure Hd.Typed (h : Hd) : Prop where
  leap : -9223372036854775808 ≤ h.leap ∧ h.leap ≤ 9223372036854775807
  ver : -9223372036854775808 ≤ h.ver ∧ h.ver ≤ 9223372036854775807
  mode : -9223372036854775808 ≤ h.mode ∧ h.mode ≤ 9223372036854775807
  str : -9223372036854775808 ≤ h.str ∧ h.str ≤ 9223372036854775807
  poll : -9223372036854775808 ≤ h.poll ∧ h.poll ≤ 9223372036854775807
  prec : -9223372036854775808 ≤ h.prec ∧ h.prec ≤ 9223372036854775807
  rdel : 0 ≤ h.rdel ∧ h.rdel < 4294967296
  rdis : 0 ≤ h.rdis ∧ h.rdis < 4294967296
  ref : 0 ≤ h.ref ∧ h.ref < 4294967296
  reft : 0 ≤ h.reft ∧ h.reft < 18446744073709551616
  org : 0 ≤ h.org ∧ h.org < 18446744073709551616
  rcv : 0 ≤ h.rcv ∧ h.rcv < 18446744073709551616
  tx : 0 ≤ h.tx ∧ h.tx < 18446744073709551616
/-- What a header may be. -/
structure Hd.Fit (h : Hd) : Prop where
  leap : 0 ≤ h.leap ∧ h.leap ≤ 3
  ver : 1 ≤ h.ver ∧ h.ver ≤ 4
  mode : 0 ≤ h.mode ∧ h.mode ≤ 7
  str : 0 ≤ h.str ∧ h.str ≤ 255
  poll : -128 ≤ h.poll ∧ h.poll ≤ 127
  prec : -128 ≤ h.prec ∧ h.prec ≤ 127
def inB (n a b : Int) : Bool := decide (a ≤ n) && decide (n ≤ b)
def Hd.may (h : Hd) : Bool := inB h.leap 0 3 && inB h.ver 1 4 && inB h.mode 0 7 && inB h.str 0 255 && inB h.poll (-128) 127 && inB h.prec (-128) 127
theorem Hd.may_fit {h : Hd} (m : h.may = true) : h.Fit := by
  unfold Hd.may inB at m
  simp at m
  exact ⟨by omega, by omega, by omega, by omega, by omega, by omega⟩
theorem Hd.Fit.may {h : Hd} (f : h.Fit) : h.may = true := by
  unfold Hd.may inB
  simp
  exact ⟨⟨⟨⟨⟨f.leap, f.ver⟩, f.mode⟩, f.str⟩, f.poll⟩, f.prec⟩
def Hd.zero : Hd := ⟨0, 0, 0, 0, 0, 0, 0, 0, 0, 0, 0, 0, 0⟩
/-- As the program has it. -/
def Hd.val (h : Hd) : Value := .agg #[.int .i64 h.leap, .int .i64 h.ver, .int .i64 h.mode, .int .i64 h.str, .int .i64 h.poll, .int .i64 h.prec, .int .u32 h.rdel, .int .u32 h.rdis, .int .u32 h.ref, .int .u64 h.reft, .int .u64 h.org, .int .u64 h.rcv, .int .u64 h.tx]
theorem Hd.val_inj {h k : Hd} (e : h.val = k.val) : h = k := by
  cases h; cases k
  simp [Hd.val] at e
  simp [e]
/-- Its bytes. -/
def Hd.enc (h : Hd) : List UInt8 :=
  be 1 (64 * h.leap + 8 * h.ver + h.mode) ++ be 1 h.str ++ be 1 (h.poll % 256) ++ be 1 (h.prec % 256) ++ be 4 h.rdel ++ be 4 h.rdis ++ be 4 h.ref ++ be 8 h.reft ++ be 8 h.org ++ be 8 h.rcv ++ be 8 h.tx
theorem Hd.enc_length (h : Hd) : h.enc.length = 48 := by simp [Hd.enc, be_length]
/-- Bytes a to b of a text. -/
def cut (l : List UInt8) (a b : Nat) : List UInt8 := (l.drop a).take (b - a)
def byteAt (l : List UInt8) (i : Nat) : Int := ((l.getD i 0).toNat : Int)
def sgn (c : Int) : Int := if 128 ≤ c then c - 256 else c
/-- What bytes are the header of. -/
def decH (l : List UInt8) : Hd where
  leap := byteAt l 0 / 64
  ver := byteAt l 0 / 8 % 8
  mode := byteAt l 0 % 8
  str := byteAt l 1
  poll := sgn (byteAt l 2)
  prec := sgn (byteAt l 3)
  rdel := num (cut l 4 8)
  rdis := num (cut l 8 12)
  ref := num (cut l 12 16)
  reft := num (cut l 16 24)
  org := num (cut l 24 32)
  rcv := num (cut l 32 40)
  tx := num (cut l 40 48)
theorem bs_at (l : List UInt8) (i : Nat) (h : i < (bs l).size) : (((bs l)[i]'h).toNat : Int) = byteAt l i := by
  have h' : i < l.length := by rw [bs_size] at h; exact h
  unfold byteAt
  rw [bs_get, List.getD_eq_getElem?_getD, List.getElem?_eq_getElem h', Option.getD_some]
theorem bs_cut (l : List UInt8) (a b : Nat) : (bs l).extract a b = bs (cut l a b) := bs_extract l a b
theorem cut_len (l : List UInt8) (a b : Nat) : (cut l a b).length = min (b - a) (l.length - a) := by
  unfold cut; rw [List.length_take, List.length_drop]
theorem cut_end (l : List UInt8) (a : Nat) : cut l a l.length = l.drop a := by
  unfold cut; rw [List.take_of_length_le (by rw [List.length_drop]; omega)]
/-- What reading a text comes to. -/
def decE (l : List UInt8) : Int := if l.length < 48 then 50 else if (decH l).ver < 1 ∨ 4 < (decH l).ver then 51 else 0
def decV (l : List UInt8) : Hd := if decE l = 0 then decH l else Hd.zero
def decR (l : List UInt8) : List UInt8 := if decE l = 0 then l.drop 48 else []
theorem byteAt_range (l : List UInt8) (i : Nat) : 0 ≤ byteAt l i ∧ byteAt l i < 256 := byte_lt _
theorem cut_length (l : List UInt8) (a b : Nat) (h : b ≤ l.length) : (cut l a b).length = b - a := by
  unfold cut; rw [List.length_take, List.length_drop]; omega
theorem num_cut (l : List UInt8) (a b : Nat) (h : b ≤ l.length) : 0 ≤ num (cut l a b) ∧ num (cut l a b) < 256 ^ (b - a) := by
  have := num_range (cut l a b)
  rwa [cut_length l a b h] at this
theorem dec_typed (l : List UInt8) (h : 48 ≤ l.length) : (decH l).Typed ∧ 0 ≤ (decH l).leap ∧ (decH l).leap ≤ 3 ∧ 0 ≤ (decH l).mode ∧ (decH l).mode ≤ 7 ∧ 0 ≤ (decH l).str ∧ (decH l).str ≤ 255 ∧ -128 ≤ (decH l).poll ∧ (decH l).poll ≤ 127 ∧ -128 ≤ (decH l).prec ∧ (decH l).prec ≤ 127 ∧ 0 ≤ (decH l).ver ∧ (decH l).ver ≤ 7 := by
  have b0 := byteAt_range l 0
  have b1 := byteAt_range l 1
  have b2 := byteAt_range l 2
  have b3 := byteAt_range l 3
  have n1 := num_cut l 4 8 (by omega)
  have n2 := num_cut l 8 12 (by omega)
  have n3 := num_cut l 12 16 (by omega)
  have n4 := num_cut l 16 24 (by omega)
  have n5 := num_cut l 24 32 (by omega)
  have n6 := num_cut l 32 40 (by omega)
  have n7 := num_cut l 40 48 (by omega)
  simp at n1 n2 n3 n4 n5 n6 n7
  unfold decH sgn
  refine ⟨⟨?_, ?_, ?_, ?_, ?_, ?_, n1, n2, n3, n4, n5, n6, n7⟩, ?_⟩
  all_goals (simp only []; omega)
theorem one_be (x : Int) (h : 0 ≤ x) (h' : x < 256) : be 1 x = [b8 x] := by
  show [b8 (x / 256 ^ 0 % 256)] = [b8 x]
  rw [Int.pow_zero, Int.ediv_one, Int.emod_eq_of_lt h h']
theorem dec_at (a b c d : UInt8) (l : List UInt8) (x1 x2 x3 x4 x5 x6 x7 : Int) (h1 : 0 ≤ x1 ∧ x1 < 4294967296) (h2 : 0 ≤ x2 ∧ x2 < 4294967296) (h3 : 0 ≤ x3 ∧ x3 < 4294967296)
    (h4 : 0 ≤ x4 ∧ x4 < 18446744073709551616) (h5 : 0 ≤ x5 ∧ x5 < 18446744073709551616) (h6 : 0 ≤ x6 ∧ x6 < 18446744073709551616) (h7 : 0 ≤ x7 ∧ x7 < 18446744073709551616) :
    decH ([a] ++ [b] ++ [c] ++ [d] ++ be 4 x1 ++ be 4 x2 ++ be 4 x3 ++ be 8 x4 ++ be 8 x5 ++ be 8 x6 ++ be 8 x7 ++ l) =
      ⟨(a.toNat : Int) / 64, (a.toNat : Int) / 8 % 8, (a.toNat : Int) % 8, b.toNat, sgn c.toNat, sgn d.toNat, x1, x2, x3, x4, x5, x6, x7⟩ := by
  have d : ∀ (k j : Nat) (n : Int), k ≤ j → (be k n).drop j = [] := fun k j n h => List.drop_eq_nil_of_le (by rw [be_length]; exact h)
  unfold decH
  simp [cut, byteAt, List.drop_append, be_length, num_be, d]
  exact ⟨Int.emod_eq_of_lt h1.1 h1.2, Int.emod_eq_of_lt h2.1 h2.2, Int.emod_eq_of_lt h3.1 h3.2, Int.emod_eq_of_lt h4.1 h4.2, Int.emod_eq_of_lt h5.1 h5.2, Int.emod_eq_of_lt h6.1 h6.2, Int.emod_eq_of_lt h7.1 h7.2⟩
/-- Read out of what it was put into. -/
theorem dec_enc (h : Hd) (t : h.Typed) (f : h.Fit) (more : List UInt8) : decH (h.enc ++ more) = h := by
  have f1 := f.leap
  have f2 := f.ver
  have f3 := f.mode
  have f4 := f.str
  have f5 := f.poll
  have f6 := f.prec
  unfold Hd.enc
  rw [one_be _ (by omega) (by omega), one_be _ (by omega) (by omega), one_be _ (by omega) (by omega), one_be _ (by omega) (by omega), dec_at _ _ _ _ _ _ _ _ _ _ _ _ t.rdel t.rdis t.ref t.reft t.org t.rcv t.tx,
    b8_nat _ (by omega) (by omega), b8_nat _ (by omega) (by omega), b8_nat _ (by omega) (by omega), b8_nat _ (by omega) (by omega)]
  unfold sgn
  cases h
  simp only [Hd.mk.injEq, and_true, eq_self] at *
  refine ⟨by omega, by omega, by omega, trivial, ?_, ?_⟩
  · split <;> omega
  · split <;> omega
theorem cut_next (l : List UInt8) (a b : Nat) (h : a ≤ b) : l.take a ++ cut l a b = l.take b := by
  unfold cut
  have := List.take_add (l := l) (i := a) (j := b - a)
  rw [show a + (b - a) = b by omega] at this
  exact this.symm
theorem cut_one (l : List UInt8) (i : Nat) (h : i < l.length) : [l.getD i 0] = cut l i (i + 1) := by
  unfold cut
  rw [List.drop_eq_getElem_cons h, show i + 1 - i = 1 by omega, List.getD_eq_getElem?_getD, List.getElem?_eq_getElem h, Option.getD_some]
  simp only [List.take_succ_cons, List.take_zero]
theorem enc_dec (l : List UInt8) (h : 48 ≤ l.length) : (decH l).enc = l.take 48 := by
  have b0 := byteAt_range l 0
  have b1 := byteAt_range l 1
  have b2 := byteAt_range l 2
  have b3 := byteAt_range l 3
  have n1 := be_of (cut l 4 8) 4 (cut_length l 4 8 (by omega))
  have n2 := be_of (cut l 8 12) 4 (cut_length l 8 12 (by omega))
  have n3 := be_of (cut l 12 16) 4 (cut_length l 12 16 (by omega))
  have n4 := be_of (cut l 16 24) 8 (cut_length l 16 24 (by omega))
  have n5 := be_of (cut l 24 32) 8 (cut_length l 24 32 (by omega))
  have n6 := be_of (cut l 32 40) 8 (cut_length l 32 40 (by omega))
  have n7 := be_of (cut l 40 48) 8 (cut_length l 40 48 (by omega))
  have e : ∀ i, b8 (byteAt l i) = l.getD i 0 := fun i => b8_of _
  unfold Hd.enc
  rw [one_be _ (by simp only [decH]; omega) (by simp only [decH]; omega), one_be _ (by simp only [decH]; omega) (by simp only [decH]; omega), one_be _ (by omega) (by omega), one_be _ (by omega) (by omega)]
  simp only [decH]
  rw [n1, n2, n3, n4, n5, n6, n7, show 64 * (byteAt l 0 / 64) + 8 * (byteAt l 0 / 8 % 8) + byteAt l 0 % 8 = byteAt l 0 by omega,
    show sgn (byteAt l 2) % 256 = byteAt l 2 by unfold sgn; omega, show sgn (byteAt l 3) % 256 = byteAt l 3 by unfold sgn; omega, e, e, e, e,
    cut_one l 0 (by omega), cut_one l 1 (by omega), cut_one l 2 (by omega), cut_one l 3 (by omega)]
  have z := cut_next l 0 1 (by omega)
  simp only [List.take_zero, List.nil_append] at z
  rw [z, cut_next l 1 2 (by omega), cut_next l 2 3 (by omega), cut_next l 3 4 (by omega), cut_next l 4 8 (by omega), cut_next l 8 12 (by omega), cut_next l 12 16 (by omega), cut_next l 16 24 (by omega), cut_next l 24 32 (by omega), cut_next l 32 40 (by omega), cut_next l 40 48 (by omega)]
end Go.Proofs.YthfgjhffcbehbaaDoor.W
