/- Headers as records of whole numbers, and their bytes. No program in it. -/
import Derived.Test.YtcfdggeoecdnnaaHdA
namespace Go.Proofs.Ytcfdggeoecdnnaa.W
open Go.RowKit
set_option linter.unusedVariables false
/-- Bytes a to b of a text. -/
def cut (l : List UInt8) (a b : Nat) : List UInt8 := (l.drop a).take (b - a)
def byteAt (l : List UInt8) (i : Nat) : Int := ((l.getD i 0).toNat : Int)
theorem bs_at (l : List UInt8) (i : Nat) (h : i < (bs l).size) : (((bs l)[i]'h).toNat : Int) = byteAt l i := by
  have h' : i < l.length := by rw [bs_size] at h; exact h
  unfold byteAt
  rw [bs_get, List.getD_eq_getElem?_getD, List.getElem?_eq_getElem h', Option.getD_some]
theorem bs_cut (l : List UInt8) (a b : Nat) : (bs l).extract a b = bs (cut l a b) := bs_extract l a b
theorem cut_len (l : List UInt8) (a b : Nat) : (cut l a b).length = min (b - a) (l.length - a) := by
  unfold cut; rw [List.length_take, List.length_drop]
theorem cut_end (l : List UInt8) (a : Nat) : cut l a l.length = l.drop a := by
  unfold cut; rw [List.take_of_length_le (by rw [List.length_drop]; omega)]
theorem byteAt_range (l : List UInt8) (i : Nat) : 0 ≤ byteAt l i ∧ byteAt l i < 256 := byte_lt _
theorem cut_length (l : List UInt8) (a b : Nat) (h : b ≤ l.length) : (cut l a b).length = b - a := by
  unfold cut; rw [List.length_take, List.length_drop]; omega
theorem num_cut (l : List UInt8) (a b : Nat) (h : b ≤ l.length) : 0 ≤ num (cut l a b) ∧ num (cut l a b) < 256 ^ (b - a) := by
  have := num_range (cut l a b)
  rwa [cut_length l a b h] at this
end Go.Proofs.Ytcfdggeoecdnnaa.W
