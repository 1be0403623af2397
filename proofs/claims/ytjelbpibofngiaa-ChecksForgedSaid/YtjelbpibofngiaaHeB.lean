/- Layer 5's own code, walked: numbers taken. -/
import Derived.Test.YtjelbpibofngiaaRows
import Derived.Test.YtjelbpibofngiaaWdefs
import Derived.Test.YtjelbpibofngiaaHdB
import Derived.Test.YtjelbpibofngiaaHdI
import Derived.Test.YtjelbpibofngiaaHeA
import Derived.WalkKit
import Derived.WalkSpells
import Derived.WalkLawsBesides
import Derived.Lib.Hide
import Derived.Lib.Zigzag
import Derived.Handy
import Derived.OwnWalk

namespace Go.Proofs.Ytjelbpibofngiaa.W
open Go.RowKit
set_option linter.unusedVariables false
set_option linter.unusedSimpArgs false
theorem or_nat_u32 (n m : Nat) (hn : n < 2 ^ 32) (hm : m < 2 ^ 32) : bits .or .u32 (n : Int) (m : Int) = ((n ||| m : Nat) : Int) := by
  have hx : n ||| m < 2 ^ 32 := Nat.or_lt_two_pow hn hm
  have h1 : (BitVec.ofInt 32 (n : Int)).toNat = n := by
    rw [BitVec.ofInt_natCast, BitVec.toNat_ofNat]; exact Nat.mod_eq_of_lt (by omega)
  have h2 : (BitVec.ofInt 32 (m : Int)).toNat = m := by
    rw [BitVec.ofInt_natCast, BitVec.toNat_ofNat]; exact Nat.mod_eq_of_lt (by omega)
  show IntKind.u32.wrap ((BitVec.ofInt 32 (n : Int) ||| BitVec.ofInt 32 (m : Int)).toNat : Int) = _
  rw [BitVec.toNat_or, h1, h2, IntKind.wrap_u32]
  omega
theorem or_u32 (a c : Int) (j : Nat) (A C R : Int) (a0 : 0 ≤ a) (c0 : 0 ≤ c) (c1 : c < 256) (hA : A = a * 256 * 256 ^ j) (hC : C = c * 256 ^ j) (hR : R = (a * 256 + c) * 256 ^ j) (hb : R < 2 ^ 32) :
    bits .or .u32 A C = R := by
  obtain ⟨a, rfl⟩ := Int.eq_ofNat_of_zero_le a0
  obtain ⟨c, rfl⟩ := Int.eq_ofNat_of_zero_le c0
  have e1 : A = ((a * 256 * 256 ^ j : Nat) : Int) := by rw [hA, Int.natCast_mul, Int.natCast_mul, Int.natCast_pow]; rfl
  have e2 : C = ((c * 256 ^ j : Nat) : Int) := by rw [hC, Int.natCast_mul, Int.natCast_pow]; rfl
  have e3 : R = (((a * 256 + c) * 256 ^ j : Nat) : Int) := by rw [hR, Int.natCast_mul, Int.natCast_add, Int.natCast_mul, Int.natCast_pow]; rfl
  have e4 : (a * 256 + c) * 256 ^ j = a * 256 * 256 ^ j + c * 256 ^ j := Nat.add_mul _ _ _
  have e5 : a * 256 * 256 ^ j ||| c * 256 ^ j = (a * 256 + c) * 256 ^ j := by
    have h8 := Nat.two_pow_add_eq_or_of_lt (b := c) (i := 8) (by omega) a
    rw [show (256 : Nat) ^ j = 2 ^ (8 * j) by rw [Nat.pow_mul], ← Nat.shiftLeft_eq, ← Nat.shiftLeft_eq, ← Nat.shiftLeft_eq, ← Nat.shiftLeft_or_distrib, show a * 256 = 2 ^ 8 * a by omega, h8]
  rw [e3] at hb
  have hb' : (a * 256 + c) * 256 ^ j < 2 ^ 32 := by
    generalize (a * 256 + c) * 256 ^ j = r at hb
    omega
  rw [e4] at hb'
  rw [e1, e2, e3, or_nat_u32 _ _ (Nat.lt_of_le_of_lt (Nat.le_add_right _ _) hb') (Nat.lt_of_le_of_lt (Nat.le_add_left _ _) hb'), e5]
theorem num_step (l : List UInt8) (k : Nat) (h : k < l.length) : num (l.take (k + 1)) = num (l.take k) * 256 + byteAt l k := by
  rw [List.take_succ_eq_append_getElem h, num_snoc]
  unfold byteAt
  rw [List.getD_eq_getElem?_getD, List.getElem?_eq_getElem h, Option.getD_some]
theorem num_below (l : List UInt8) (k m : Nat) (h : k ≤ m) (hl : m ≤ l.length) : 0 ≤ num (l.take k) ∧ num (l.take k) * 256 ^ (m - k) < 256 ^ m := by
  obtain ⟨x0, x1⟩ := num_range (l.take k)
  have e : (l.take k).length = k := by rw [List.length_take, Nat.min_eq_left (by omega)]
  rw [e] at x1
  refine ⟨x0, ?_⟩
  have := Int.mul_lt_mul_of_pos_right x1 (pw256 (m - k))
  rwa [← Int.pow_add, show k + (m - k) = m by omega] at this
set_option maxHeartbeats 3200000 in
theorem take_u32 (l : List UInt8) (hl : 4 ≤ l.length) (hl2 : l.length ≤ 4611686018427387904) (w : World) :
    Calls Try.prog 81 #[.string (bs l)] w fun e w' => e = .returned (.tuple #[.int .u32 (num (l.take 4)), .string (bs (l.drop 4))]) ∧ ∃ m, w' = w.drewN m := by
  have c := width_u32
  have hd : ∀ w, (Instr.slice 9 (.string (bs l)) (some (.int .i64 4)) none none).run Try.prog w = .ok (.string (bs (l.drop 4))) w := slice_from l 4 hl
  generalize hR : bs (l.drop 4) = R at *
  clear hR
  go_enter Try.func81, Try.ntmps81
  go_wp2_with fail
  (with_reducible refine (c _).mono ?_)
  rintro e w' ⟨rfl, rfl⟩
  go_wp2_with fail
  go_loop [5, 10] (fun v i => ∃ k : Nat, k ≤ 4 ∧ i = .int .i64 k ∧ v = .int .u32 (num (l.take k) * 256 ^ (4 - k))) (fun _ i => 4 - (intOf i).toNat)
  case atStart => exact ⟨0, by omega, rfl, by simp [num]⟩
  case round =>
    obtain ⟨k, hk, rfl, rfl⟩ := hrel
    have hc : k = 0 ∨ k = 1 ∨ k = 2 ∨ k = 3 ∨ k = 4 := by omega
    rcases hc with rfl | rfl | rfl | rfl | rfl
    · have hi : ∀ w, (Instr.index 9 (.string (bs l)) (.int .i64 0)).run Try.prog w = .ok (.int .u8 (byteAt l 0)) w := index_at l 0 (by omega)
      obtain ⟨c0, c1⟩ := byteAt_range l 0
      obtain ⟨a0, a1⟩ := num_below l 0 4 (by omega) (by omega)
      obtain ⟨b0, b1⟩ := num_below l 1 4 (by omega) (by omega)
      have hs := num_step l 0 (by omega)
      generalize num (l.take 0) = a at *
      obtain ⟨a', ha'⟩ : ∃ x, num (l.take 1) = x := ⟨_, rfl⟩
      rw [ha'] at b0 b1 hs
      have HA := Lib.hid ha'
      clear ha'
      generalize byteAt l 0 = b at *
      simp only [Nat.reduceSub, Int.reducePow] at a1 b1
      have ho := or_u32 a b 3 (a * 4294967296) (b * 16777216) (a' * 16777216) a0 c0 c1 (by simp only [Int.reducePow]; omega) (by simp only [Int.reducePow] <;> omega) (by rw [hs]; simp only [Int.reducePow] <;> omega) (by simp only [Int.reducePow]; omega)
      have HS := Lib.hid hs
      clear hs
      simp only [Nat.reduceSub, Int.reducePow]
      go_wp2_with fail
      go_round
      case rel => exact ⟨1, by omega, rfl, by rw [HA.out]; simp only [Nat.reduceSub, Int.reducePow] <;> (try simp)⟩
      case measure => simp [intOf]
    · have hi : ∀ w, (Instr.index 9 (.string (bs l)) (.int .i64 1)).run Try.prog w = .ok (.int .u8 (byteAt l 1)) w := index_at l 1 (by omega)
      obtain ⟨c0, c1⟩ := byteAt_range l 1
      obtain ⟨a0, a1⟩ := num_below l 1 4 (by omega) (by omega)
      obtain ⟨b0, b1⟩ := num_below l 2 4 (by omega) (by omega)
      have hs := num_step l 1 (by omega)
      generalize num (l.take 1) = a at *
      obtain ⟨a', ha'⟩ : ∃ x, num (l.take 2) = x := ⟨_, rfl⟩
      rw [ha'] at b0 b1 hs
      have HA := Lib.hid ha'
      clear ha'
      generalize byteAt l 1 = b at *
      simp only [Nat.reduceSub, Int.reducePow] at a1 b1
      have ho := or_u32 a b 2 (a * 16777216) (b * 65536) (a' * 65536) a0 c0 c1 (by simp only [Int.reducePow]; omega) (by simp only [Int.reducePow] <;> omega) (by rw [hs]; simp only [Int.reducePow] <;> omega) (by simp only [Int.reducePow]; omega)
      have HS := Lib.hid hs
      clear hs
      simp only [Nat.reduceSub, Int.reducePow]
      go_wp2_with fail
      go_round
      case rel => exact ⟨2, by omega, rfl, by rw [HA.out]; simp only [Nat.reduceSub, Int.reducePow] <;> (try simp)⟩
      case measure => simp [intOf]
    · have hi : ∀ w, (Instr.index 9 (.string (bs l)) (.int .i64 2)).run Try.prog w = .ok (.int .u8 (byteAt l 2)) w := index_at l 2 (by omega)
      obtain ⟨c0, c1⟩ := byteAt_range l 2
      obtain ⟨a0, a1⟩ := num_below l 2 4 (by omega) (by omega)
      obtain ⟨b0, b1⟩ := num_below l 3 4 (by omega) (by omega)
      have hs := num_step l 2 (by omega)
      generalize num (l.take 2) = a at *
      obtain ⟨a', ha'⟩ : ∃ x, num (l.take 3) = x := ⟨_, rfl⟩
      rw [ha'] at b0 b1 hs
      have HA := Lib.hid ha'
      clear ha'
      generalize byteAt l 2 = b at *
      simp only [Nat.reduceSub, Int.reducePow] at a1 b1
      have ho := or_u32 a b 1 (a * 65536) (b * 256) (a' * 256) a0 c0 c1 (by simp only [Int.reducePow]; omega) (by simp only [Int.reducePow] <;> omega) (by rw [hs]; simp only [Int.reducePow] <;> omega) (by simp only [Int.reducePow]; omega)
      have HS := Lib.hid hs
      clear hs
      simp only [Nat.reduceSub, Int.reducePow]
      go_wp2_with fail
      go_round
      case rel => exact ⟨3, by omega, rfl, by rw [HA.out]; simp only [Nat.reduceSub, Int.reducePow] <;> (try simp)⟩
      case measure => simp [intOf]
    · have hi : ∀ w, (Instr.index 9 (.string (bs l)) (.int .i64 3)).run Try.prog w = .ok (.int .u8 (byteAt l 3)) w := index_at l 3 (by omega)
      obtain ⟨c0, c1⟩ := byteAt_range l 3
      obtain ⟨a0, a1⟩ := num_below l 3 4 (by omega) (by omega)
      obtain ⟨b0, b1⟩ := num_below l 4 4 (by omega) (by omega)
      have hs := num_step l 3 (by omega)
      generalize num (l.take 3) = a at *
      obtain ⟨a', ha'⟩ : ∃ x, num (l.take 4) = x := ⟨_, rfl⟩
      rw [ha'] at b0 b1 hs
      have HA := Lib.hid ha'
      clear ha'
      generalize byteAt l 3 = b at *
      simp only [Nat.reduceSub, Int.reducePow] at a1 b1
      have ho := or_u32 a b 0 (a * 256) (b) (a') a0 c0 c1 (by simp only [Int.reducePow]; omega) (by simp only [Int.reducePow] <;> omega) (by rw [hs]; simp only [Int.reducePow] <;> omega) (by simp only [Int.reducePow]; omega)
      have HS := Lib.hid hs
      clear hs
      simp only [Nat.reduceSub, Int.reducePow]
      go_wp2_with fail
      go_round
      case rel => exact ⟨4, by omega, rfl, by rw [HA.out]; simp only [Nat.reduceSub, Int.reducePow] <;> (try simp)⟩
      case measure => simp [intOf]
    · go_wp2_with fail
      go_quiet (fail)
      go_wp2_with fail
      go_ret2
      exact ⟨by simp, _, rfl⟩
end Go.Proofs.Ytjelbpibofngiaa.W
