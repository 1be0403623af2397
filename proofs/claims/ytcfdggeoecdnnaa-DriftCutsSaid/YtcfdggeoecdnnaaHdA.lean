/- Texts as lists of bytes; numbers as so many bytes, the highest one first. No program in it. -/
import Derived.WalkKit
import Derived.Below
import Derived.Lib.Strings
import Derived.Laws.IdiomStrings
namespace Go.Proofs.Ytcfdggeoecdnnaa.W
open Go.RowKit
set_option linter.unusedVariables false
def bs (l : List UInt8) : ByteArray := ⟨l.toArray⟩
def b8 (x : Int) : UInt8 := UInt8.ofNat x.toNat
theorem bs_size (l : List UInt8) : (bs l).size = l.length := by simp [bs, ByteArray.size]
theorem bs_append (a b : List UInt8) : bs a ++ bs b = bs (a ++ b) := by
  unfold bs; exact ByteArray.mk_append_mk _ _
theorem bs_data (s : ByteArray) : bs s.data.toList = s := Lib.mk_data s
theorem bs_list (l : List UInt8) : (bs l).toList = l := by rw [Lib.toList_data]; simp [bs]
theorem bs_extract (l : List UInt8) (a b : Nat) : (bs l).extract a b = bs ((l.drop a).take (b - a)) := by
  rw [Lib.extract_eq]; simp [bs]
theorem bs_get (l : List UInt8) (i : Nat) (h : i < (bs l).size) : (bs l)[i] = l[i]'(by rw [bs_size] at h; exact h) := by
  show (bs l).data[i] = _
  simp [bs]
/-- A number's bytes, so many, the highest one first. -/
def be : Nat → Int → List UInt8
  | 0, _ => []
  | k + 1, n => b8 (n / 256 ^ k % 256) :: be k n
/-- The number of bytes. -/
def num (l : List UInt8) : Int := l.foldl (fun a b => a * 256 + (b.toNat : Int)) 0
theorem be_length (k : Nat) (n : Int) : (be k n).length = k := by
  induction k with
  | zero => rfl
  | succ k ih => simp [be, ih]
theorem b8_nat (x : Int) (h : 0 ≤ x) (h' : x < 256) : ((b8 x).toNat : Int) = x := by
  unfold b8
  simp [UInt8.toNat_ofNat']
  omega
theorem b8_of (b : UInt8) : b8 (b.toNat : Int) = b := by
  unfold b8
  simp
theorem byte_lt (b : UInt8) : 0 ≤ (b.toNat : Int) ∧ (b.toNat : Int) < 256 := by
  have := b.toNat_lt
  omega
theorem num_snoc (l : List UInt8) (b : UInt8) : num (l ++ [b]) = num l * 256 + (b.toNat : Int) := by simp [num, List.foldl_append]
theorem pw256 (k : Nat) : (0 : Int) < 256 ^ k := Int.pow_pos (by decide)
theorem foldl_num (l : List UInt8) (a : Int) : l.foldl (fun a b => a * 256 + (b.toNat : Int)) a = a * 256 ^ l.length + num l := by
  induction l generalizing a with
  | nil => simp [num]
  | cons b l ih =>
    unfold num
    simp only [List.foldl_cons, List.length_cons]
    rw [ih, ih (0 * 256 + (b.toNat : Int))]
    rw [Int.pow_succ]
    generalize (256 : Int) ^ l.length = p
    rw [Int.add_mul, Int.add_mul, Int.mul_assoc, Int.mul_comm 256 p]
    omega
theorem num_append (a b : List UInt8) : num (a ++ b) = num a * 256 ^ b.length + num b := by
  have h := foldl_num b (num a)
  unfold num at *
  rw [List.foldl_append]
  exact h
theorem num_cons (b : UInt8) (l : List UInt8) : num (b :: l) = (b.toNat : Int) * 256 ^ l.length + num l := by
  have := num_append [b] l
  simpa [num] using this
theorem num_range (l : List UInt8) : 0 ≤ num l ∧ num l < 256 ^ l.length := by
  induction l with
  | nil => simp [num]
  | cons b l ih =>
    obtain ⟨h1, h2⟩ := byte_lt b
    have hp := pw256 l.length
    rw [num_cons, List.length_cons, Int.pow_succ]
    generalize (256 : Int) ^ l.length = p at *
    have e1 : (0 : Int) ≤ (b.toNat : Int) * p := Int.mul_nonneg h1 (by omega)
    have e2 : (b.toNat : Int) * p ≤ 255 * p := Int.mul_le_mul_of_nonneg_right (by omega) (by omega)
    omega
theorem split_mod (n p : Int) (hp : 0 < p) : n / p % 256 * p + n % p = n % (p * 256) := by
  have h1 := Int.mul_ediv_add_emod n p
  have h2 := Int.mul_ediv_add_emod (n / p) 256
  have r0 := Int.emod_nonneg n (show p ≠ 0 by omega)
  have r1 := Int.emod_lt_of_pos n hp
  have s0 := Int.emod_nonneg (n / p) (show (256 : Int) ≠ 0 by decide)
  have s1 := Int.emod_lt_of_pos (n / p) (show (0 : Int) < 256 by decide)
  generalize n % p = r at *
  generalize n / p % 256 = s at *
  generalize n / p / 256 = t at *
  have e : n = (s * p + r) + t * (p * 256) := by
    rw [← h1, ← h2, Int.mul_add, Int.mul_comm p s, show p * (256 * t) = t * (p * 256) by rw [← Int.mul_assoc, Int.mul_comm]]
    omega
  have m0 : 0 ≤ s * p := Int.mul_nonneg s0 (by omega)
  have m1 : s * p ≤ 255 * p := Int.mul_le_mul_of_nonneg_right (by omega) (by omega)
  rw [e, Int.add_mul_emod_self_right, Int.emod_eq_of_lt (by omega) (by omega)]
theorem num_be (k : Nat) (n : Int) : num (be k n) = n % 256 ^ k := by
  induction k with
  | zero => simp [be, num, Int.emod_one]
  | succ k ih =>
    rw [be, num_cons, be_length, ih, b8_nat _ (Int.emod_nonneg _ (by decide)) (Int.emod_lt_of_pos _ (by decide)), Int.pow_succ]
    exact split_mod n _ (pw256 k)
theorem be_add (k : Nat) (n m : Int) : be k (n + m * 256 ^ k) = be k n := by
  induction k generalizing m with
  | zero => rfl
  | succ k ih =>
    have hp := pw256 k
    have e : n + m * 256 ^ (k + 1) = n + m * 256 * 256 ^ k := by rw [Int.pow_succ, Int.mul_comm (256 ^ k) 256, Int.mul_assoc]
    rw [be, be, e, ih, Int.add_mul_ediv_right _ _ (by omega), Int.add_mul_emod_self_right]
theorem be_num (l : List UInt8) : be l.length (num l) = l := by
  induction l with
  | nil => rfl
  | cons b l ih =>
    obtain ⟨h1, h2⟩ := byte_lt b
    obtain ⟨r0, r1⟩ := num_range l
    have hp := pw256 l.length
    rw [num_cons, List.length_cons, be, Int.add_comm, be_add, ih, Int.add_mul_ediv_right _ _ (by omega), Int.ediv_eq_zero_of_lt r0 r1, Int.zero_add, Int.emod_eq_of_lt h1 h2, b8_of]
theorem be_of (l : List UInt8) (k : Nat) (h : l.length = k) : be k (num l) = l := h ▸ be_num l
end Go.Proofs.Ytcfdggeoecdnnaa.W
