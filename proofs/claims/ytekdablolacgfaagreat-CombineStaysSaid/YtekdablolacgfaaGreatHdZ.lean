import Derived.WalkKit
import Derived.Below
import Derived.Lib.Strings
import Derived.Laws.IdiomStrings
import Derived.Test.YtekdablolacgfaaGreatRows
import Derived.Test.YtekdablolacgfaaGreatWdefs
import Derived.WalkSpells
import Derived.WalkLawsBesides
import Derived.Lib.Hide
import Derived.Lib.Zigzag
import Derived.Handy
/- Texts as lists of bytes; numbers as so many bytes, the highest one first. No program in it. -/
namespace Go.Proofs.YtekdablolacgfaaGreat.W
open Go.RowKit
set_option linter.unusedVariables false
def bs (l : List UInt8) : ByteArray := ⟨l.toArray⟩
def b8 (x : Int) : UInt8 := UInt8.ofNat x.toNat
theorem bs_size (l : List UInt8) : (bs l).size = l.length := by simp [bs, ByteArray.size]
theorem bs_append (a b : List UInt8) : bs a ++ bs b = bs (a ++ b) := by
  unfold bs; exact ByteArray.mk_append_mk _ _
theorem bs_list (l : List UInt8) : (bs l).toList = l := by rw [Lib.toList_data]; simp [bs]
theorem bs_extract (l : List UInt8) (a b : Nat) : (bs l).extract a b = bs ((l.drop a).take (b - a)) := by
  rw [Lib.extract_eq]; simp [bs]
theorem bs_get (l : List UInt8) (i : Nat) (h : i < (bs l).size) : (bs l)[i] = l[i]'(by rw [bs_size] at h; exact h) := by
  show (bs l).data[i] = _
  simp [bs]
/-- A number's bytes, so many, the highest one first. -/
def be : Nat → Int → List UInt8
  | 0, _ => []
  | k + 1, n => b8 (n / 256 ^ k % 256) :: be k n
/-- The number of bytes. -/
def num (l : List UInt8) : Int := l.foldl (fun a b => a * 256 + (b.toNat : Int)) 0
theorem be_length (k : Nat) (n : Int) : (be k n).length = k := by
  induction k with
  | zero => rfl
  | succ k ih => simp [be, ih]
end Go.Proofs.YtekdablolacgfaaGreat.W

/- Headers as records of whole numbers, and their bytes. No program in it. -/
namespace Go.Proofs.YtekdablolacgfaaGreat.W
open Go.RowKit
set_option linter.unusedVariables false
/-- Bytes a to b of a text. -/
def cut (l : List UInt8) (a b : Nat) : List UInt8 := (l.drop a).take (b - a)
def byteAt (l : List UInt8) (i : Nat) : Int := ((l.getD i 0).toNat : Int)
theorem bs_at (l : List UInt8) (i : Nat) (h : i < (bs l).size) : (((bs l)[i]'h).toNat : Int) = byteAt l i := by
  have h' : i < l.length := by rw [bs_size] at h; exact h
  unfold byteAt
  rw [bs_get, List.getD_eq_getElem?_getD, List.getElem?_eq_getElem h', Option.getD_some]
theorem bs_cut (l : List UInt8) (a b : Nat) : (bs l).extract a b = bs (cut l a b) := bs_extract l a b
theorem cut_len (l : List UInt8) (a b : Nat) : (cut l a b).length = min (b - a) (l.length - a) := by
  unfold cut; rw [List.length_take, List.length_drop]
theorem cut_end (l : List UInt8) (a : Nat) : cut l a l.length = l.drop a := by
  unfold cut; rw [List.take_of_length_le (by rw [List.length_drop]; omega)]
end Go.Proofs.YtekdablolacgfaaGreat.W

/- The document's own answers of layer 5, walked: bytes of numbers and back. -/
namespace Go.Proofs.YtekdablolacgfaaGreat.W
open Go.RowKit
set_option linter.unusedVariables false
set_option linter.unusedSimpArgs false
attribute [go_sem] bs_size bs_append be_length
end Go.Proofs.YtekdablolacgfaaGreat.W

/- Bytes and parts of a text, as the walks ask for them. -/
namespace Go.Proofs.YtekdablolacgfaaGreat.W
open Go.RowKit
set_option linter.unusedVariables false
set_option linter.unusedSimpArgs false
attribute [go_sem] bs_at bs_cut cut_len cut_end bs_list
end Go.Proofs.YtekdablolacgfaaGreat.W

