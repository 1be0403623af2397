/- The document's own answers of layer 5, walked: bytes of numbers and back. -/
import Derived.Test.YtdcpohbgbnbgmaaRows
import Derived.Test.YtdcpohbgbnbgmaaWdefs
import Derived.Test.YtdcpohbgbnbgmaaHdA
import Derived.WalkKit
import Derived.WalkSpells
import Derived.WalkLawsBesides
import Derived.Lib.Hide
import Derived.Lib.Zigzag
import Derived.Handy
namespace Go.Proofs.Ytdcpohbgbnbgmaa.W
open Go.RowKit
set_option linter.unusedVariables false
set_option linter.unusedSimpArgs false
attribute [go_sem] bs_size bs_append be_length
theorem one_byte (x : Int) (w : World) : (convert 55 9 (.slice (some ⟨w.heap.size, 0, none⟩) 1 1)).run Try.prog (w.alloc (.cells #[.int .u8 x] 5)) = .ok (.string (bs [b8 x])) (w.alloc (.cells #[.int .u8 x] 5)) := by
  have hc : (w.alloc (.cells #[.int .u8 x] 5)).cell? ⟨w.heap.size, 0, none⟩ = some (.int .u8 x) := by simp [go_sem]
  rw [run_convert_bytes_string _ _ _ 5 _ _ _ Try.underlying55 Try.underlying5 Try.underlying9]
  have hl := run_loadCells_list (P := Try.prog) (w.alloc (.cells #[.int .u8 x] 5)) ⟨w.heap.size, 0, none⟩ [.int .u8 x] (fun j v hj => by
    match j, hj with
    | 0, hj => simp at hj; subst hj; exact hc)
  exact run_bytesToString _ _ 1 1 [x] hl
set_option maxHeartbeats 800000 in
theorem bytes_any (n : Int) (m : Nat) (h0 : 0 ≤ n) (h1 : n < 18446744073709551616) (hm : m ≤ 8) (w : World) :
    Calls Try.prog 29 #[.int .u64 n, .int .i64 m] w fun e w' => e = .returned (.string (bs (be m n))) ∧ Below w.heap.size w w' := by
  have hcv := one_byte
  go_enter Try.func29, Try.ntmps29
  go_wp2
  go_loopw [0, 5, 6] (fun a s i wr => ∃ k : Nat, k ≤ m ∧ a = .int .u64 (n / 256 ^ k) ∧ i = .int .i64 k ∧ s = .string (bs (be k n)) ∧ Below w.heap.size w wr) (fun _ _ i _ => m - (intOf i).toNat)
  case atStart => exact ⟨0, Nat.zero_le _, by simp, rfl, rfl, Below.refl _ _⟩
  case round =>
    obtain ⟨k, hk, rfl, rfl, rfl, hB⟩ := hrel
    obtain ⟨q, hq⟩ : ∃ q, n / 256 ^ k = q := ⟨_, rfl⟩
    obtain ⟨q0, q1⟩ : 0 ≤ q ∧ q ≤ n := by
      rw [← hq]
      exact ⟨Int.ediv_nonneg h0 (Int.le_of_lt (pw256 k)), Int.ediv_le_self _ h0⟩
    have hq2 : n / 256 ^ (k + 1) = q / 256 := by
      rw [Int.pow_succ, ← hq, Int.ediv_ediv_of_nonneg (Int.le_of_lt (pw256 k))]
    have hbe : be (k + 1) n = b8 (q % 256) :: be k n := by rw [be, hq]
    have HQ := Lib.hid hq2
    have HB := Lib.hid hbe
    rw [hq]
    clear hq hq2 hbe
    have hz := hB.size
    by_cases hlt : k < m
    · go_wp2
      go_round
      case rel => exact ⟨k + 1, by omega, by rw [HQ.out], by go_num, by rw [HB.out], by repeat' (first | (with_reducible exact Below.refl _ _) | (with_reducible assumption) | (with_reducible refine below_drewN ?_ _) | (with_reducible refine Below.drew ?_) | (with_reducible refine Below.setCell ?_ ?_ _) | (with_reducible refine Below.alloc ?_ ?_ _) | (simp; done) | (simp; omega) | omega)⟩
      case measure => simp [intOf]; omega
    · obtain rfl : k = m := by omega
      go_wp2
      go_ret
      exact ⟨rfl, hB⟩
/-- The digit behind so many. -/
theorem or_byte (n b : Int) (h0 : 0 ≤ n) (h1 : n < 72057594037927936) (b0 : 0 ≤ b) (b1 : b < 256) : bits .or .u64 (n * 256) b = n * 256 + b := by
  obtain ⟨n, rfl⟩ := Int.eq_ofNat_of_zero_le h0
  obtain ⟨m, rfl⟩ := Int.eq_ofNat_of_zero_le b0
  have e := Nat.two_pow_add_eq_or_of_lt (b := m) (i := 8) (by omega) n
  have e1 : (n : Int) * 256 = ((n * 256 : Nat) : Int) := by omega
  rw [e1]
  have := bits_or_u64_nat (n * 256) m (by omega) (by omega)
  rw [this, show n * 256 = 2 ^ 8 * n by omega, ← e]
  omega
theorem num_take (l : List UInt8) (k : Nat) (h : k < l.length) (hl : l.length ≤ 8) : 0 ≤ num (l.take k) ∧ num (l.take k) < 72057594037927936 := by
  obtain ⟨x0, x1⟩ := num_range (l.take k)
  refine ⟨x0, ?_⟩
  have e : (l.take k).length = k := by rw [List.length_take, Nat.min_eq_left (by omega)]
  rw [e] at x1
  have hp : ∀ k : Nat, k < 8 → (256 : Int) ^ k ≤ 72057594037927936 := by decide
  have := hp k (by omega)
  omega
theorem num_round (l : List UInt8) (k : Nat) (h : k < l.length) (hl : l.length ≤ 8) (hh : k < (bs l).size) :
    bits .or .u64 (IntKind.u64.wrap (num (l.take k) * 256)) (IntKind.u64.wrap (((bs l)[k]'hh).toNat : Int)) = num (l.take (k + 1)) := by
  obtain ⟨x0, x1⟩ := num_take l k h hl
  have hb := byte_lt l[k]
  rw [bs_get, IntWalk.u64_in _ (by omega), IntWalk.u64_in _ (by omega)]
  refine (or_byte _ _ x0 x1 hb.1 hb.2).trans ?_
  rw [← num_snoc, List.take_succ_eq_append_getElem h]
  rfl
set_option maxHeartbeats 800000 in
theorem number_any (l : List UInt8) (hl : l.length ≤ 8) (w : World) :
    Calls Try.prog 23 #[.string (bs l)] w fun e w' => e = .returned (.int .u64 (num l)) ∧ w = w' := by
  go_enter Try.func23, Try.ntmps23
  go_wp2
  go_loop [3, 4] (fun a i => ∃ k : Nat, k ≤ l.length ∧ a = .int .u64 (num (l.take k)) ∧ i = .int .i64 k) (fun _ i => l.length - (intOf i).toNat)
  case atStart => exact ⟨0, Nat.zero_le _, by simp [num], rfl⟩
  case round =>
    obtain ⟨k, hk, rfl, rfl⟩ := hrel
    by_cases hlt : k < l.length
    · go_wp2
      go_round
      case rel => exact ⟨k + 1, by omega, by rw [num_round l k hlt hl], by go_num⟩
      case measure => simp [intOf]; omega
    · obtain rfl : k = l.length := by omega
      rw [List.take_length]
      go_wp2
      go_ret
      exact ⟨rfl, rfl⟩
end Go.Proofs.Ytdcpohbgbnbgmaa.W
