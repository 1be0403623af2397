/- Layer 9's own code, walked: numbers read out of bytes, and put into them; what is ahead. -/
import Derived.Test.YtcfdggeoecdnnaaRows
import Derived.Test.YtcfdggeoecdnnaaWdefs
import Derived.Test.YtcfdggeoecdnnaaHdB
import Derived.Test.YtcfdggeoecdnnaaHdI
import Derived.Test.YtcfdggeoecdnnaaHdJ
import Derived.Test.YtcfdggeoecdnnaaSlA
import Derived.Test.YtcfdggeoecdnnaaDrA
import Derived.WalkKit
import Derived.WalkSpells
import Derived.WalkLawsBesides
import Derived.Lib.Hide
import Derived.Lib.Zigzag
import Derived.Handy
import Derived.OwnWalk
namespace Go.Proofs.Ytcfdggeoecdnnaa.W
open Go.RowKit Go.Sort
set_option linter.unusedVariables false
set_option linter.unusedSimpArgs false
theorem or_nat_u64 (n m : Nat) (hn : n < 2 ^ 64) (hm : m < 2 ^ 64) : bits .or .u64 (n : Int) (m : Int) = ((n ||| m : Nat) : Int) := by
  have hx : n ||| m < 2 ^ 64 := Nat.or_lt_two_pow hn hm
  have h1 : (BitVec.ofInt 64 (n : Int)).toNat = n := by
    rw [BitVec.ofInt_natCast, BitVec.toNat_ofNat]; exact Nat.mod_eq_of_lt (by omega)
  have h2 : (BitVec.ofInt 64 (m : Int)).toNat = m := by
    rw [BitVec.ofInt_natCast, BitVec.toNat_ofNat]; exact Nat.mod_eq_of_lt (by omega)
  show IntKind.u64.wrap ((BitVec.ofInt 64 (n : Int) ||| BitVec.ofInt 64 (m : Int)).toNat : Int) = _
  rw [BitVec.toNat_or, h1, h2, IntKind.wrap_u64]
  omega
theorem or_u64 (a c : Int) (j : Nat) (A C R : Int) (a0 : 0 ≤ a) (c0 : 0 ≤ c) (c1 : c < 256) (hA : A = a * 256 * 256 ^ j) (hC : C = c * 256 ^ j) (hR : R = (a * 256 + c) * 256 ^ j) (hb : R < 2 ^ 64) :
    bits .or .u64 A C = R := by
  obtain ⟨a, rfl⟩ := Int.eq_ofNat_of_zero_le a0
  obtain ⟨c, rfl⟩ := Int.eq_ofNat_of_zero_le c0
  have e1 : A = ((a * 256 * 256 ^ j : Nat) : Int) := by rw [hA, Int.natCast_mul, Int.natCast_mul, Int.natCast_pow]; rfl
  have e2 : C = ((c * 256 ^ j : Nat) : Int) := by rw [hC, Int.natCast_mul, Int.natCast_pow]; rfl
  have e3 : R = (((a * 256 + c) * 256 ^ j : Nat) : Int) := by rw [hR, Int.natCast_mul, Int.natCast_add, Int.natCast_mul, Int.natCast_pow]; rfl
  have e4 : (a * 256 + c) * 256 ^ j = a * 256 * 256 ^ j + c * 256 ^ j := Nat.add_mul _ _ _
  have e5 : a * 256 * 256 ^ j ||| c * 256 ^ j = (a * 256 + c) * 256 ^ j := by
    have h8 := Nat.two_pow_add_eq_or_of_lt (b := c) (i := 8) (by omega) a
    rw [show (256 : Nat) ^ j = 2 ^ (8 * j) by rw [Nat.pow_mul], ← Nat.shiftLeft_eq, ← Nat.shiftLeft_eq, ← Nat.shiftLeft_eq, ← Nat.shiftLeft_or_distrib, show a * 256 = 2 ^ 8 * a by omega, h8]
  rw [e3] at hb
  have hb' : (a * 256 + c) * 256 ^ j < 2 ^ 64 := by
    generalize (a * 256 + c) * 256 ^ j = r at hb
    omega
  rw [e4] at hb'
  rw [e1, e2, e3, or_nat_u64 _ _ (Nat.lt_of_le_of_lt (Nat.le_add_right _ _) hb') (Nat.lt_of_le_of_lt (Nat.le_add_left _ _) hb'), e5]
theorem num_step (l : List UInt8) (k : Nat) (h : k < l.length) : num (l.take (k + 1)) = num (l.take k) * 256 + byteAt l k := by
  rw [List.take_succ_eq_append_getElem h, num_snoc]
  unfold byteAt
  rw [List.getD_eq_getElem?_getD, List.getElem?_eq_getElem h, Option.getD_some]
/-- Bytes as a row of cells. -/
def bc (l : List UInt8) : List Value := l.map fun b => .int .u8 (b.toNat : Int)
theorem bc_length (l : List UInt8) : (bc l).length = l.length := by simp [bc]
theorem bc_snoc (l : List UInt8) (x : Int) (h : 0 ≤ x) (h' : x < 256) : bc l ++ [.int .u8 x] = bc (l ++ [b8 x]) := by
  simp [bc, b8_nat x h h']
theorem be_take (m k : Nat) (n : Int) (h : k < m) : (be m n).take (k + 1) = (be m n).take k ++ [b8 (n / 256 ^ (m - 1 - k) % 256)] := by
  induction m generalizing k with
  | zero => omega
  | succ m ih =>
    cases k with
    | zero => simp [be]
    | succ k =>
      have e : m - 1 - k = m + 1 - 1 - (k + 1) := by omega
      simp only [be, List.take_succ_cons, List.cons_append]
      rw [ih k (by omega), e]

theorem pow256_le {a b : Nat} (h : a ≤ b) : (256 : Int) ^ a ≤ 256 ^ b := by
  have h1 : ∀ n : Nat, (256 : Int) ^ n = ((256 ^ n : Nat) : Int) := fun n => by rw [Int.natCast_pow]; rfl
  rw [h1, h1]
  exact Int.ofNat_le.2 (Nat.pow_le_pow_right (by decide) h)
set_option maxHeartbeats 3200000 in
theorem number_any (l : List UInt8) (hl : l.length ≤ 8) (w : World) :
    Calls Try.prog 25 #[.string (bs l)] w fun e w' => e = .returned (.int .u64 (num l)) ∧ w = w' := by
  go_enter Try.func25, Try.ntmps25
  go_wp2_with fail
  go_loop [3, 7] (fun v i => ∃ k : Nat, k ≤ l.length ∧ i = .int .i64 k ∧ v = .int .u64 (num (l.take k))) (fun _ i => l.length - (intOf i).toNat)
  case atStart => exact ⟨0, by omega, rfl, by simp [num]⟩
  case round =>
    obtain ⟨k, hk, rfl, rfl⟩ := hrel
    by_cases hk2 : k < l.length
    · have hi : ∀ w, (Instr.index 9 (.string (bs l)) (.int .i64 k)).run Try.prog w = .ok (.int .u8 (byteAt l k)) w := index_at l k hk2
      obtain ⟨c0, c1⟩ := byteAt_range l k
      have hs := num_step l k hk2
      have b := num_range (l.take (k + 1))
      have hb : num (l.take (k + 1)) < 18446744073709551616 := by
        have e : (l.take (k + 1)).length = k + 1 := by rw [List.length_take]; omega
        rw [e] at b
        have := pow256_le (show k + 1 ≤ 8 by omega)
        have h8 : (256 : Int) ^ 8 = 18446744073709551616 := by simp only [Int.reducePow]
        omega
      have b0 := b.1
      clear b
      have a0 := (num_range (l.take k)).1
      generalize num (l.take k) = a at *
      generalize ha' : num (l.take (k + 1)) = a' at *
      generalize byteAt l k = c at *
      have ho := or_u64 a c 0 (a * 256) c a' a0 c0 c1 (by simp) (by simp) (by rw [hs]; simp) (by omega)
      have hw : IntKind.u64.wrap (a * 256) = a * 256 := by rw [IntKind.wrap_u64]; omega
      go_wp2_with fail
      go_round
      case rel => exact ⟨k + 1, by omega, by go_num, by rw [ha', hs]⟩
      case measure => simp [intOf]; omega
    · obtain rfl : k = l.length := by omega
      rw [List.take_length]
      go_wp2_with fail
      go_ret
      exact ⟨rfl, rfl⟩
set_option maxHeartbeats 1600000 in
theorem isAhead_any (a b : Int) (a0 : 0 ≤ a) (a1 : a < 4294967296) (b0 : 0 ≤ b) (b1 : b < 4294967296) (w : World) :
    Calls Try.prog 24 #[.int .u32 a, .int .u32 b] w fun e w' => e = .returned (.bool (decide (0 < (a - b) % 4294967296 ∧ (a - b) % 4294967296 < 2147483648))) ∧ w = w' := by
  go_enter Try.func24, Try.ntmps24
  go_wp2_with fail
  go_ret
  have e : decide (0 < wrap32 ((a - b) % 4294967296)) = decide (0 < (a - b) % 4294967296 ∧ (a - b) % 4294967296 < 2147483648) := decide_eq_decide.2 (by unfold wrap32; omega)
  exact ⟨by simp [e], rfl⟩
theorem bc_at {w : World} {b : Nat} {s : List UInt8} {t : TypeId} (h : w.heap[b]? = some (.cells (bc s).toArray t (0, 0))) (j : Nat) (hj : j < s.length) : w.cell? ⟨b, j, none⟩ = some (.int .u8 (byteAt s j)) := by
  unfold byteAt
  rw [List.getD_eq_getElem?_getD, List.getElem?_eq_getElem hj, Option.getD_some]
  simp [World.cell?, h, bc, List.getElem?_eq_getElem hj]
theorem bc_frozen {w : World} {b : Nat} {C : Array Value} {t : TypeId} (h : w.heap[b]? = some (.cells C t (0, 0))) (j : Nat) : w.frozen? ⟨b, j, none⟩ = false := by
  simp [World.frozen?, h]
theorem bc_set (s : List UInt8) (j : Nat) (v : Int) (h0 : 0 ≤ v) (h1 : v < 256) : (bc s).toArray.setIfInBounds j (.int .u8 v) = (bc (s.set j (b8 v))).toArray := by
  simp [bc, List.map_set, b8_nat v h0 h1]
theorem wsFrom_append (n : Nat) (a b : List UInt8) : wsFrom n (a ++ b) = wsFrom n a ++ wsFrom (n + a.length) b := by
  induction a generalizing n with
  | nil => simp [wsFrom]
  | cons x a ih => simp [wsFrom, ih, Nat.add_assoc, Nat.add_comm 1]
theorem puts_next (s : List UInt8) (off m k : Nat) (x : Int) (hk : k < m) : puts s (wsFrom off ((be m x).take (k + 1))) = (puts s (wsFrom off ((be m x).take k))).set (off + k) (b8 (x / 256 ^ (m - 1 - k) % 256)) := by
  rw [be_take m k x hk, wsFrom_append, puts_append]
  have : ((be m x).take k).length = k := by rw [List.length_take, be_length]; omega
  rw [this]
  rfl
set_option maxHeartbeats 6400000 in
theorem putNumber_4 (x : Int) (x0 : 0 ≤ x) (x1 : x < 18446744073709551616) (s : List UInt8) (b off cap : Nat) (ho : off + 4 ≤ s.length) (t : TypeId) (w : World) (hb : w.heap[b]? = some (.cells (bc s).toArray t (0, 0))) :
    Calls Try.prog 20 #[.slice (some ⟨b, off, none⟩) 4 cap, .int .u64 x] w fun e w' => e = .returned (.tuple #[]) ∧ w'.heap[b]? = some (.cells (bc (puts s (wsFrom off (be 4 x)))).toArray t (0, 0)) ∧ Touch (fun k => k = b) w w' := by
  have hlb := (Array.getElem?_eq_some_iff.1 hb).1
  go_enter Try.func20, Try.ntmps20
  go_wp2_with fail
  go_loopw [7] (fun i wr => ∃ k : Nat, k ≤ 4 ∧ i = .int .i64 k ∧ wr.heap[b]? = some (.cells (bc (puts s (wsFrom off ((be 4 x).take k)))).toArray t (0, 0)) ∧ Touch (fun k => k = b) w wr) (fun i _ => 4 - (intOf i).toNat)
  case atStart => exact ⟨0, by omega, rfl, hb, Touch.refl _ _⟩
  case round =>
    obtain ⟨k, hk, rfl, hh, hT⟩ := hrel
    by_cases hk2 : k = 4
    · subst hk2
      rw [List.take_of_length_le (by rw [be_length]; omega)] at hh
      go_wp2_with fail
      go_end0
      exact ⟨rfl, hh, hT⟩
    · have hn := puts_next s off 4 k x (by omega)
      have hpl : (puts s (wsFrom off ((be 4 x).take k))).length = s.length := puts_length _ _
      generalize hS : puts s (wsFrom off ((be 4 x).take k)) = S at *
      have c0 := bc_at hh (off + k) (by omega)
      have z0 := bc_frozen hh (off + k)
      have hc : k = 0 ∨ k = 1 ∨ k = 2 ∨ k = 3 := by omega
      rcases hc with rfl | rfl | rfl | rfl
      · simp only [Nat.reduceSub, Int.reducePow, Nat.reduceAdd, Nat.add_zero, Int.ediv_one] at hn c0 z0
        go_wp2_with fail
        go_roundw
        case rel => exact ⟨1, by omega, rfl, by rw [hn, ← bc_set _ _ _ (by omega) (by omega)]; exact block_set _ _ hh, hT.setCell (.inl rfl) _⟩
        case measure => simp [intOf]
      · simp only [Nat.reduceSub, Int.reducePow, Nat.reduceAdd, Nat.add_zero, Int.ediv_one] at hn c0 z0
        go_wp2_with fail
        go_roundw
        case rel => exact ⟨2, by omega, rfl, by rw [hn, ← bc_set _ _ _ (by omega) (by omega)]; exact block_set _ _ hh, hT.setCell (.inl rfl) _⟩
        case measure => simp [intOf]
      · simp only [Nat.reduceSub, Int.reducePow, Nat.reduceAdd, Nat.add_zero, Int.ediv_one] at hn c0 z0
        go_wp2_with fail
        go_roundw
        case rel => exact ⟨3, by omega, rfl, by rw [hn, ← bc_set _ _ _ (by omega) (by omega)]; exact block_set _ _ hh, hT.setCell (.inl rfl) _⟩
        case measure => simp [intOf]
      · simp only [Nat.reduceSub, Int.reducePow, Nat.reduceAdd, Nat.add_zero, Int.ediv_one] at hn c0 z0
        go_wp2_with fail
        go_roundw
        case rel => exact ⟨4, by omega, rfl, by rw [hn, ← bc_set _ _ _ (by omega) (by omega)]; exact block_set _ _ hh, hT.setCell (.inl rfl) _⟩
        case measure => simp [intOf]
set_option maxHeartbeats 6400000 in
theorem putNumber_8 (x : Int) (x0 : 0 ≤ x) (x1 : x < 18446744073709551616) (s : List UInt8) (b off cap : Nat) (ho : off + 8 ≤ s.length) (t : TypeId) (w : World) (hb : w.heap[b]? = some (.cells (bc s).toArray t (0, 0))) :
    Calls Try.prog 20 #[.slice (some ⟨b, off, none⟩) 8 cap, .int .u64 x] w fun e w' => e = .returned (.tuple #[]) ∧ w'.heap[b]? = some (.cells (bc (puts s (wsFrom off (be 8 x)))).toArray t (0, 0)) ∧ Touch (fun k => k = b) w w' := by
  have hlb := (Array.getElem?_eq_some_iff.1 hb).1
  go_enter Try.func20, Try.ntmps20
  go_wp2_with fail
  go_loopw [7] (fun i wr => ∃ k : Nat, k ≤ 8 ∧ i = .int .i64 k ∧ wr.heap[b]? = some (.cells (bc (puts s (wsFrom off ((be 8 x).take k)))).toArray t (0, 0)) ∧ Touch (fun k => k = b) w wr) (fun i _ => 8 - (intOf i).toNat)
  case atStart => exact ⟨0, by omega, rfl, hb, Touch.refl _ _⟩
  case round =>
    obtain ⟨k, hk, rfl, hh, hT⟩ := hrel
    by_cases hk2 : k = 8
    · subst hk2
      rw [List.take_of_length_le (by rw [be_length]; omega)] at hh
      go_wp2_with fail
      go_end0
      exact ⟨rfl, hh, hT⟩
    · have hn := puts_next s off 8 k x (by omega)
      have hpl : (puts s (wsFrom off ((be 8 x).take k))).length = s.length := puts_length _ _
      generalize hS : puts s (wsFrom off ((be 8 x).take k)) = S at *
      have c0 := bc_at hh (off + k) (by omega)
      have z0 := bc_frozen hh (off + k)
      have hc : k = 0 ∨ k = 1 ∨ k = 2 ∨ k = 3 ∨ k = 4 ∨ k = 5 ∨ k = 6 ∨ k = 7 := by omega
      rcases hc with rfl | rfl | rfl | rfl | rfl | rfl | rfl | rfl
      · simp only [Nat.reduceSub, Int.reducePow, Nat.reduceAdd, Nat.add_zero, Int.ediv_one] at hn c0 z0
        go_wp2_with fail
        go_roundw
        case rel => exact ⟨1, by omega, rfl, by rw [hn, show x / 72057594037927936 % 256 = x / 72057594037927936 by omega, ← bc_set _ _ _ (by omega) (by omega)]; exact block_set _ _ hh, hT.setCell (.inl rfl) _⟩
        case measure => simp [intOf]
      · simp only [Nat.reduceSub, Int.reducePow, Nat.reduceAdd, Nat.add_zero, Int.ediv_one] at hn c0 z0
        go_wp2_with fail
        go_roundw
        case rel => exact ⟨2, by omega, rfl, by rw [hn, ← bc_set _ _ _ (by omega) (by omega)]; exact block_set _ _ hh, hT.setCell (.inl rfl) _⟩
        case measure => simp [intOf]
      · simp only [Nat.reduceSub, Int.reducePow, Nat.reduceAdd, Nat.add_zero, Int.ediv_one] at hn c0 z0
        go_wp2_with fail
        go_roundw
        case rel => exact ⟨3, by omega, rfl, by rw [hn, ← bc_set _ _ _ (by omega) (by omega)]; exact block_set _ _ hh, hT.setCell (.inl rfl) _⟩
        case measure => simp [intOf]
      · simp only [Nat.reduceSub, Int.reducePow, Nat.reduceAdd, Nat.add_zero, Int.ediv_one] at hn c0 z0
        go_wp2_with fail
        go_roundw
        case rel => exact ⟨4, by omega, rfl, by rw [hn, ← bc_set _ _ _ (by omega) (by omega)]; exact block_set _ _ hh, hT.setCell (.inl rfl) _⟩
        case measure => simp [intOf]
      · simp only [Nat.reduceSub, Int.reducePow, Nat.reduceAdd, Nat.add_zero, Int.ediv_one] at hn c0 z0
        go_wp2_with fail
        go_roundw
        case rel => exact ⟨5, by omega, rfl, by rw [hn, ← bc_set _ _ _ (by omega) (by omega)]; exact block_set _ _ hh, hT.setCell (.inl rfl) _⟩
        case measure => simp [intOf]
      · simp only [Nat.reduceSub, Int.reducePow, Nat.reduceAdd, Nat.add_zero, Int.ediv_one] at hn c0 z0
        go_wp2_with fail
        go_roundw
        case rel => exact ⟨6, by omega, rfl, by rw [hn, ← bc_set _ _ _ (by omega) (by omega)]; exact block_set _ _ hh, hT.setCell (.inl rfl) _⟩
        case measure => simp [intOf]
      · simp only [Nat.reduceSub, Int.reducePow, Nat.reduceAdd, Nat.add_zero, Int.ediv_one] at hn c0 z0
        go_wp2_with fail
        go_roundw
        case rel => exact ⟨7, by omega, rfl, by rw [hn, ← bc_set _ _ _ (by omega) (by omega)]; exact block_set _ _ hh, hT.setCell (.inl rfl) _⟩
        case measure => simp [intOf]
      · simp only [Nat.reduceSub, Int.reducePow, Nat.reduceAdd, Nat.add_zero, Int.ediv_one] at hn c0 z0
        go_wp2_with fail
        go_roundw
        case rel => exact ⟨8, by omega, rfl, by rw [hn, ← bc_set _ _ _ (by omega) (by omega)]; exact block_set _ _ hh, hT.setCell (.inl rfl) _⟩
        case measure => simp [intOf]
theorem take_byte (l : List UInt8) (k : Nat) (h : k < l.length) : l.take (k + 1) = l.take k ++ [b8 (byteAt l k)] := by
  rw [List.take_succ_eq_append_getElem h]
  unfold byteAt
  rw [List.getD_eq_getElem?_getD, List.getElem?_eq_getElem h, Option.getD_some, b8_of]
theorem sumA_snoc (l : List UInt8) (b : UInt8) : sumA (l ++ [b]) = sumA l + (b.toNat : Int) := by
  induction l with
  | nil => simp [sumA]
  | cons x l ih => simp [sumA, ih]; omega
theorem sumW_snoc (l : List UInt8) (b : UInt8) : ∀ n, sumW n (l ++ [b]) = sumW n l + (n + l.length) * (b.toNat : Int) := by
  induction l with
  | nil => simp [sumW]
  | cons x l ih =>
    intro n
    simp [sumW, ih]
    rw [show n + 1 + (l.length : Int) = n + ((l.length : Int) + 1) by omega]
    omega
theorem sums_next (l : List UInt8) (k : Nat) (h : k < l.length) : sumA (l.take (k + 1)) = sumA (l.take k) + byteAt l k ∧ sumB (l.take (k + 1)) = sumB (l.take k) + ((k : Int) + 1) * byteAt l k := by
  obtain ⟨c0, c1⟩ := byteAt_range l k
  have e : (l.take k).length = k := by rw [List.length_take]; omega
  rw [take_byte l k h]
  unfold sumB
  rw [sumA_snoc, sumW_snoc, b8_nat _ c0 c1, e, Int.add_comm 1]
  exact ⟨rfl, rfl⟩
set_option maxHeartbeats 6400000 in
theorem sums_any (l : List UInt8) (hl : l.length ≤ 200) (b off cap : Nat) (w : World) (hb : ∀ j, j < l.length → w.cell? ⟨b, off + j, none⟩ = some (.int .u8 (byteAt l j))) :
    Calls Try.prog 21 #[.slice (some ⟨b, off, none⟩) l.length cap] w fun e w' => e = .returned (.tuple #[.int .u8 (sumA l % 256), .int .u8 (sumB l % 256)]) ∧ w = w' := by
  go_enter Try.func21, Try.ntmps21
  go_wp2_with fail
  go_loop [2, 3, 8] (fun x y i => ∃ k : Nat, k ≤ l.length ∧ i = .int .i64 k ∧ x = .int .u8 (sumA (l.take k) % 256) ∧ y = .int .u8 (sumB (l.take k) % 256)) (fun _ _ i => l.length - (intOf i).toNat)
  case atStart => exact ⟨0, by omega, rfl, rfl, rfl⟩
  case round =>
    obtain ⟨k, hk, rfl, rfl, rfl⟩ := hrel
    by_cases hk2 : k < l.length
    · have c0 := hb k hk2
      obtain ⟨n1, n2⟩ := sums_next l k hk2
      obtain ⟨b0, b1⟩ := byteAt_range l k
      generalize sumA (l.take k) = sa at *
      generalize sumB (l.take k) = sb at *
      generalize hA : sumA (l.take (k + 1)) = sa' at *
      generalize hB : sumB (l.take (k + 1)) = sb' at *
      go_wp2_with fail
      go_round
      case rel =>
        refine ⟨k + 1, by omega, by go_num, ?_, ?_⟩
        · rw [hA, n1, Int.emod_add_emod]
        · rw [hB, n2, Int.mul_comm (byteAt l k), Int.emod_add_emod, Int.add_emod_emod]
      case measure => simp [intOf]; omega
    · obtain rfl : k = l.length := by omega
      rw [List.take_length]
      go_wp2_with fail
      go_ret2
      exact ⟨rfl, rfl⟩
end Go.Proofs.Ytcfdggeoecdnnaa.W
