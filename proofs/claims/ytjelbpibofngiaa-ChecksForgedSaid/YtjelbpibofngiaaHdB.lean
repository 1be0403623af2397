import Derived.WalkKit
import Derived.Below
import Derived.Lib.Strings
import Derived.Laws.IdiomStrings
/- Texts as lists of bytes; numbers as so many bytes, the highest one first. No program in it. -/
namespace Go.Proofs.Ytjelbpibofngiaa.W
open Go.RowKit
set_option linter.unusedVariables false
def bs (l : List UInt8) : ByteArray := ⟨l.toArray⟩
def b8 (x : Int) : UInt8 := UInt8.ofNat x.toNat
theorem bs_size (l : List UInt8) : (bs l).size = l.length := by simp [bs, ByteArray.size]
theorem bs_append (a b : List UInt8) : bs a ++ bs b = bs (a ++ b) := by
  unfold bs; exact ByteArray.mk_append_mk _ _
theorem bs_list (l : List UInt8) : (bs l).toList = l := by rw [Lib.toList_data]; simp [bs]
theorem bs_extract (l : List UInt8) (a b : Nat) : (bs l).extract a b = bs ((l.drop a).take (b - a)) := by
  rw [Lib.extract_eq]; simp [bs]
theorem bs_get (l : List UInt8) (i : Nat) (h : i < (bs l).size) : (bs l)[i] = l[i]'(by rw [bs_size] at h; exact h) := by
  show (bs l).data[i] = _
  simp [bs]
/-- A number's bytes, so many, the highest one first. -/
def be : Nat → Int → List UInt8
  | 0, _ => []
  | k + 1, n => b8 (n / 256 ^ k % 256) :: be k n
/-- The number of bytes. -/
def num (l : List UInt8) : Int := l.foldl (fun a b => a * 256 + (b.toNat : Int)) 0
theorem be_length (k : Nat) (n : Int) : (be k n).length = k := by
  induction k with
  | zero => rfl
  | succ k ih => simp [be, ih]
theorem byte_lt (b : UInt8) : 0 ≤ (b.toNat : Int) ∧ (b.toNat : Int) < 256 := by
  have := b.toNat_lt
  omega
theorem num_snoc (l : List UInt8) (b : UInt8) : num (l ++ [b]) = num l * 256 + (b.toNat : Int) := by simp [num, List.foldl_append]
theorem pw256 (k : Nat) : (0 : Int) < 256 ^ k := Int.pow_pos (by decide)
theorem foldl_num (l : List UInt8) (a : Int) : l.foldl (fun a b => a * 256 + (b.toNat : Int)) a = a * 256 ^ l.length + num l := by
  induction l generalizing a with
  | nil => simp [num]
  | cons b l ih =>
    unfold num
    simp only [List.foldl_cons, List.length_cons]
    rw [ih, ih (0 * 256 + (b.toNat : Int))]
    rw [Int.pow_succ]
    generalize (256 : Int) ^ l.length = p
    rw [Int.add_mul, Int.add_mul, Int.mul_assoc, Int.mul_comm 256 p]
    omega
theorem num_append (a b : List UInt8) : num (a ++ b) = num a * 256 ^ b.length + num b := by
  have h := foldl_num b (num a)
  unfold num at *
  rw [List.foldl_append]
  exact h
theorem num_cons (b : UInt8) (l : List UInt8) : num (b :: l) = (b.toNat : Int) * 256 ^ l.length + num l := by
  have := num_append [b] l
  simpa [num] using this
theorem num_range (l : List UInt8) : 0 ≤ num l ∧ num l < 256 ^ l.length := by
  induction l with
  | nil => simp [num]
  | cons b l ih =>
    obtain ⟨h1, h2⟩ := byte_lt b
    have hp := pw256 l.length
    rw [num_cons, List.length_cons, Int.pow_succ]
    generalize (256 : Int) ^ l.length = p at *
    have e1 : (0 : Int) ≤ (b.toNat : Int) * p := Int.mul_nonneg h1 (by omega)
    have e2 : (b.toNat : Int) * p ≤ 255 * p := Int.mul_le_mul_of_nonneg_right (by omega) (by omega)
    omega
end Go.Proofs.Ytjelbpibofngiaa.W

/- Headers as records of whole numbers, and their bytes. No program in it. -/
namespace Go.Proofs.Ytjelbpibofngiaa.W
open Go.RowKit
set_option linter.unusedVariables false
structure Hd where
  leap : Int
  ver : Int
  mode : Int
  str : Int
  poll : Int
  prec : Int
  rdel : Int
  rdis : Int
  ref : Int
  reft : Int
  org : Int
  rcv : Int
  tx : Int
/-- What its types let a header be. -/
structure Hd.Typed (h : Hd) : Prop where
  leap : -9223372036854775808 ≤ h.leap ∧ h.leap ≤ 9223372036854775807
  ver : -9223372036854775808 ≤ h.ver ∧ h.ver ≤ 9223372036854775807
  mode : -9223372036854775808 ≤ h.mode ∧ h.mode ≤ 9223372036854775807
  str : -9223372036854775808 ≤ h.str ∧ h.str ≤ 9223372036854775807
  poll : -9223372036854775808 ≤ h.poll ∧ h.poll ≤ 9223372036854775807
  prec : -9223372036854775808 ≤ h.prec ∧ h.prec ≤ 9223372036854775807
  rdel : 0 ≤ h.rdel ∧ h.rdel < 4294967296
  rdis : 0 ≤ h.rdis ∧ h.rdis < 4294967296
  ref : 0 ≤ h.ref ∧ h.ref < 4294967296
  reft : 0 ≤ h.reft ∧ h.reft < 18446744073709551616
  org : 0 ≤ h.org ∧ h.org < 18446744073709551616
  rcv : 0 ≤ h.rcv ∧ h.rcv < 18446744073709551616
  tx : 0 ≤ h.tx ∧ h.tx < 18446744073709551616
/-- What a header may be. -/
structure Hd.Fit (h : Hd) : Prop where
  leap : 0 ≤ h.leap ∧ h.leap ≤ 3
  ver : 1 ≤ h.ver ∧ h.ver ≤ 4
  mode : 0 ≤ h.mode ∧ h.mode ≤ 7
  str : 0 ≤ h.str ∧ h.str ≤ 255
  poll : -128 ≤ h.poll ∧ h.poll ≤ 127
  prec : -128 ≤ h.prec ∧ h.prec ≤ 127
def inB (n a b : Int) : Bool := decide (a ≤ n) && decide (n ≤ b)
def Hd.may (h : Hd) : Bool := inB h.leap 0 3 && inB h.ver 1 4 && inB h.mode 0 7 && inB h.str 0 255 && inB h.poll (-128) 127 && inB h.prec (-128) 127
theorem Hd.may_fit {h : Hd} (m : h.may = true) : h.Fit := by
  unfold Hd.may inB at m
  simp at m
  exact ⟨by omega, by omega, by omega, by omega, by omega, by omega⟩
theorem Hd.Fit.may {h : Hd} (f : h.Fit) : h.may = true := by
  unfold Hd.may inB
  simp
  exact ⟨⟨⟨⟨⟨f.leap, f.ver⟩, f.mode⟩, f.str⟩, f.poll⟩, f.prec⟩
def Hd.zero : Hd := ⟨0, 0, 0, 0, 0, 0, 0, 0, 0, 0, 0, 0, 0⟩
/-- As the program has it. -/
def Hd.val (h : Hd) : Value := .agg #[.int .i64 h.leap, .int .i64 h.ver, .int .i64 h.mode, .int .i64 h.str, .int .i64 h.poll, .int .i64 h.prec, .int .u32 h.rdel, .int .u32 h.rdis, .int .u32 h.ref, .int .u64 h.reft, .int .u64 h.org, .int .u64 h.rcv, .int .u64 h.tx]
theorem Hd.val_inj {h k : Hd} (e : h.val = k.val) : h = k := by
  cases h; cases k
  simp [Hd.val] at e
  simp [e]
/-- Its bytes. -/
def Hd.enc (h : Hd) : List UInt8 :=
  be 1 (64 * h.leap + 8 * h.ver + h.mode) ++ be 1 h.str ++ be 1 (h.poll % 256) ++ be 1 (h.prec % 256) ++ be 4 h.rdel ++ be 4 h.rdis ++ be 4 h.ref ++ be 8 h.reft ++ be 8 h.org ++ be 8 h.rcv ++ be 8 h.tx
theorem Hd.enc_length (h : Hd) : h.enc.length = 48 := by simp [Hd.enc, be_length]
/-- Bytes a to b of a text. -/
def cut (l : List UInt8) (a b : Nat) : List UInt8 := (l.drop a).take (b - a)
def byteAt (l : List UInt8) (i : Nat) : Int := ((l.getD i 0).toNat : Int)
theorem bs_at (l : List UInt8) (i : Nat) (h : i < (bs l).size) : (((bs l)[i]'h).toNat : Int) = byteAt l i := by
  have h' : i < l.length := by rw [bs_size] at h; exact h
  unfold byteAt
  rw [bs_get, List.getD_eq_getElem?_getD, List.getElem?_eq_getElem h', Option.getD_some]
theorem bs_cut (l : List UInt8) (a b : Nat) : (bs l).extract a b = bs (cut l a b) := bs_extract l a b
theorem cut_len (l : List UInt8) (a b : Nat) : (cut l a b).length = min (b - a) (l.length - a) := by
  unfold cut; rw [List.length_take, List.length_drop]
theorem cut_end (l : List UInt8) (a : Nat) : cut l a l.length = l.drop a := by
  unfold cut; rw [List.take_of_length_le (by rw [List.length_drop]; omega)]
theorem byteAt_range (l : List UInt8) (i : Nat) : 0 ≤ byteAt l i ∧ byteAt l i < 256 := byte_lt _
end Go.Proofs.Ytjelbpibofngiaa.W

