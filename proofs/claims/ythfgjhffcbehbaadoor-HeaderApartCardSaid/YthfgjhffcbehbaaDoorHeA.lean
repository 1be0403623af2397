/- Layer 5's own code, walked: how many bytes a number has; numbers put behind bytes. -/
import Derived.Test.YthfgjhffcbehbaaDoorRows
import Derived.Test.YthfgjhffcbehbaaDoorWdefs
import Derived.Test.YthfgjhffcbehbaaDoorHdB
import Derived.Test.YthfgjhffcbehbaaDoorHdI
import Derived.WalkKit
import Derived.WalkSpells
import Derived.WalkLawsBesides
import Derived.Lib.Hide
import Derived.Lib.Zigzag
import Derived.Handy
import Derived.OwnWalk

namespace Go.Proofs.YthfgjhffcbehbaaDoor.W
open Go.RowKit
set_option linter.unusedVariables false
set_option linter.unusedSimpArgs false
set_option maxHeartbeats 800000 in
theorem ones_u8 (w : World) : Calls Tryd.prog 34 #[.int .u64 255] w fun e w' => e = .returned (.int .i64 8) ∧ w = w' := by
  go_enter Tryd.func34, Tryd.ntmps34
  go_wp2
  go_ret
  exact ⟨by kernel_rfl, rfl⟩
set_option maxHeartbeats 800000 in
theorem width_u8 (w : World) : Calls Tryd.prog 28 #[] w fun e w' => e = .returned (.int .i64 1) ∧ w = w' := by
  have hx : bits BinOp.xor IntKind.u8 IntKind.u8.max 0 = 255 := by kernel_rfl
  have hy : IntKind.u64.wrap 255 = 255 := by decide
  go_enter Tryd.func28, Tryd.ntmps28
  go_wp2_with fail
  (with_reducible refine (ones_u8 _).mono ?_)
  rintro e w' ⟨rfl, rfl⟩
  go_wp2_with fail
  go_ret
  exact ⟨rfl, rfl⟩
set_option maxHeartbeats 800000 in
theorem ones_u32 (w : World) : Calls Tryd.prog 34 #[.int .u64 4294967295] w fun e w' => e = .returned (.int .i64 32) ∧ w = w' := by
  go_enter Tryd.func34, Tryd.ntmps34
  go_wp2
  go_ret
  exact ⟨by kernel_rfl, rfl⟩
set_option maxHeartbeats 800000 in
theorem width_u32 (w : World) : Calls Tryd.prog 29 #[] w fun e w' => e = .returned (.int .i64 4) ∧ w = w' := by
  have hx : bits BinOp.xor IntKind.u32 IntKind.u32.max 0 = 4294967295 := by kernel_rfl
  have hy : IntKind.u64.wrap 4294967295 = 4294967295 := by decide
  go_enter Tryd.func29, Tryd.ntmps29
  go_wp2_with fail
  (with_reducible refine (ones_u32 _).mono ?_)
  rintro e w' ⟨rfl, rfl⟩
  go_wp2_with fail
  go_ret
  exact ⟨rfl, rfl⟩
set_option maxHeartbeats 800000 in
theorem ones_u64 (w : World) : Calls Tryd.prog 34 #[.int .u64 18446744073709551615] w fun e w' => e = .returned (.int .i64 64) ∧ w = w' := by
  go_enter Tryd.func34, Tryd.ntmps34
  go_wp2
  go_ret
  exact ⟨by kernel_rfl, rfl⟩
set_option maxHeartbeats 800000 in
theorem width_u64 (w : World) : Calls Tryd.prog 30 #[] w fun e w' => e = .returned (.int .i64 8) ∧ w = w' := by
  have hx : bits BinOp.xor IntKind.u64 IntKind.u64.max 0 = 18446744073709551615 := by kernel_rfl
  have hy : IntKind.u64.wrap 18446744073709551615 = 18446744073709551615 := by decide
  go_enter Tryd.func30, Tryd.ntmps30
  go_wp2_with fail
  (with_reducible refine (ones_u64 _).mono ?_)
  rintro e w' ⟨rfl, rfl⟩
  go_wp2_with fail
  go_ret
  exact ⟨rfl, rfl⟩
/-- Bytes as a row of cells. -/
def bc (l : List UInt8) : List Value := l.map fun b => .int .u8 (b.toNat : Int)
theorem bc_length (l : List UInt8) : (bc l).length = l.length := by simp [bc]
theorem bc_snoc (l : List UInt8) (x : Int) (h : 0 ≤ x) (h' : x < 256) : bc l ++ [.int .u8 x] = bc (l ++ [b8 x]) := by
  simp [bc, b8_nat x h h']
theorem be_take (m k : Nat) (n : Int) (h : k < m) : (be m n).take (k + 1) = (be m n).take k ++ [b8 (n / 256 ^ (m - 1 - k) % 256)] := by
  induction m generalizing k with
  | zero => omega
  | succ m ih =>
    cases k with
    | zero => simp [be]
    | succ k =>
      have e : m - 1 - k = m + 1 - 1 - (k + 1) := by omega
      simp only [be, List.take_succ_cons, List.cons_append]
      rw [ih k (by omega), e]
theorem info_u8 : (Tryd.prog.info? 5).map (fun i => (i.zero, i.size, i.bytes)) = some (some (.int .u8 0), 1, 1) := by kernel_rfl
theorem row_next (l : List UInt8) (m k : Nat) (n X : Int) (hk : k < m) (hX : X = n / 256 ^ (m - 1 - k) % 256) : bc (l ++ (be m n).take k) ++ [.int .u8 X] = bc (l ++ (be m n).take (k + 1)) := by
  subst hX
  rw [be_take m k n hk, ← List.append_assoc]
  exact bc_snoc _ _ (Int.emod_nonneg _ (by decide)) (Int.emod_lt_of_pos _ (by decide))
theorem new_cell (w : World) (x : Value) (t : TypeId) : ∀ j u, [x][j]? = some u → (w.alloc (.cells #[x] t)).cell? ((⟨w.heap.size, 0, none⟩ : Addr).add j) = some u := by
  intro j u hu
  match j, hu with
  | 0, hu =>
    simp at hu
    subst hu
    rw [Addr.add_lit]
    simp [go_sem]
set_option maxHeartbeats 3200000 in
theorem put_u8 (n : Int) (h0 : 0 ≤ n) (h1 : n ≤ 255) (B : Nat) (v : Value) (l : List UInt8) (hl : l.length ≤ 1000) (w : World) (hw : w.ownsRow B 5 1 v l.length (bc l)) (hB : B ≤ w.heap.size) :
    Calls Tryd.prog 19 #[v, .int .u8 n] w fun e w' => ∃ v', e = .returned v' ∧ w'.ownsRow B 5 1 v' (l ++ be 1 n).length (bc (l ++ be 1 n)) ∧ Below B w w' := by
  have c := width_u8
  obtain ⟨i0, hi, hz0, hz1, hz2⟩ := info_parts info_u8
  go_enter Tryd.func19, Tryd.ntmps19
  go_wp2_with fail
  (with_reducible refine (c _).mono ?_)
  rintro e w' ⟨rfl, rfl⟩
  go_wp2_with fail
  go_loopw [0, 9] (fun v i wr => ∃ k : Nat, k ≤ 1 ∧ i = .int .i64 k ∧ wr.ownsRow B 5 1 v (l.length + k) (bc (l ++ (be 1 n).take k)) ∧ Below B w wr) (fun _ i _ => 1 - (intOf i).toNat)
  case atStart => exact ⟨0, by omega, rfl, by simpa using hw, Below.refl _ _⟩
  case round =>
    obtain ⟨k, hk, rfl, hown, hb⟩ := hrel
    have hz := hb.size
    have hc : k = 0 ∨ k = 1 := by omega
    rcases hc with rfl | rfl
    · go_wp2_with (at_builtin; refine wpList_append_own _ rfl _ _ 37 rfl B 5 i0 (.int .u8 0) 1 1 Tryd.underlying37 hi hz0 hz1 hz2 rfl (by decide) _ _ _ rfl (hown.alloc _) ⟨wr.heap.size, 0, none⟩ 1 1 [.int .u8 (n)] rfl rfl (new_cell _ _ _) (by intro u hu; simp at hu; subst hu; rfl) (by unfold maxLen; omega) (by omega) (by simp; omega) ?_; intro v' w1 hown1 hgrow _)
      rw [row_next l 1 0 n _ (by omega) (by simp only [Nat.reduceSub, Nat.reduceAdd, Int.reducePow] <;> omega)] at hown1
      go_wp2_with fail
      go_roundw
      case rel => exact ⟨1, by omega, rfl, hown1, (Below.alloc hb (by omega) _).grown hgrow (by simp; omega) (fun k hk => (hown.lt k hk).1)⟩
      case measure => simp [intOf]
    · rw [List.take_of_length_le (by rw [be_length]; omega)] at hown
      go_wp2_with fail
      go_ret
      exact ⟨_, rfl, by rw [List.length_append, be_length]; exact hown, hb⟩
set_option maxHeartbeats 3200000 in
theorem put_u32 (n : Int) (h0 : 0 ≤ n) (h1 : n ≤ 4294967295) (B : Nat) (v : Value) (l : List UInt8) (hl : l.length ≤ 1000) (w : World) (hw : w.ownsRow B 5 1 v l.length (bc l)) (hB : B ≤ w.heap.size) :
    Calls Tryd.prog 20 #[v, .int .u32 n] w fun e w' => ∃ v', e = .returned v' ∧ w'.ownsRow B 5 1 v' (l ++ be 4 n).length (bc (l ++ be 4 n)) ∧ Below B w w' := by
  have c := width_u32
  obtain ⟨i0, hi, hz0, hz1, hz2⟩ := info_parts info_u8
  go_enter Tryd.func20, Tryd.ntmps20
  go_wp2_with fail
  (with_reducible refine (c _).mono ?_)
  rintro e w' ⟨rfl, rfl⟩
  go_wp2_with fail
  go_loopw [0, 9] (fun v i wr => ∃ k : Nat, k ≤ 4 ∧ i = .int .i64 k ∧ wr.ownsRow B 5 1 v (l.length + k) (bc (l ++ (be 4 n).take k)) ∧ Below B w wr) (fun _ i _ => 4 - (intOf i).toNat)
  case atStart => exact ⟨0, by omega, rfl, by simpa using hw, Below.refl _ _⟩
  case round =>
    obtain ⟨k, hk, rfl, hown, hb⟩ := hrel
    have hz := hb.size
    have hc : k = 0 ∨ k = 1 ∨ k = 2 ∨ k = 3 ∨ k = 4 := by omega
    rcases hc with rfl | rfl | rfl | rfl | rfl
    · go_wp2_with (at_builtin; refine wpList_append_own _ rfl _ _ 37 rfl B 5 i0 (.int .u8 0) 1 1 Tryd.underlying37 hi hz0 hz1 hz2 rfl (by decide) _ _ _ rfl (hown.alloc _) ⟨wr.heap.size, 0, none⟩ 1 1 [.int .u8 (n / 16777216)] rfl rfl (new_cell _ _ _) (by intro u hu; simp at hu; subst hu; rfl) (by unfold maxLen; omega) (by omega) (by simp; omega) ?_; intro v' w1 hown1 hgrow _)
      rw [row_next l 4 0 n _ (by omega) (by simp only [Nat.reduceSub, Nat.reduceAdd, Int.reducePow] <;> omega)] at hown1
      go_wp2_with fail
      go_roundw
      case rel => exact ⟨1, by omega, rfl, hown1, (Below.alloc hb (by omega) _).grown hgrow (by simp; omega) (fun k hk => (hown.lt k hk).1)⟩
      case measure => simp [intOf]
    · go_wp2_with (at_builtin; refine wpList_append_own _ rfl _ _ 37 rfl B 5 i0 (.int .u8 0) 1 1 Tryd.underlying37 hi hz0 hz1 hz2 rfl (by decide) _ _ _ rfl (hown.alloc _) ⟨wr.heap.size, 0, none⟩ 1 1 [.int .u8 (n / 65536 % 256)] rfl rfl (new_cell _ _ _) (by intro u hu; simp at hu; subst hu; rfl) (by unfold maxLen; omega) (by omega) (by simp; omega) ?_; intro v' w1 hown1 hgrow _)
      rw [row_next l 4 1 n _ (by omega) (by simp only [Nat.reduceSub, Nat.reduceAdd, Int.reducePow] <;> omega)] at hown1
      go_wp2_with fail
      go_roundw
      case rel => exact ⟨2, by omega, rfl, hown1, (Below.alloc hb (by omega) _).grown hgrow (by simp; omega) (fun k hk => (hown.lt k hk).1)⟩
      case measure => simp [intOf]
    · go_wp2_with (at_builtin; refine wpList_append_own _ rfl _ _ 37 rfl B 5 i0 (.int .u8 0) 1 1 Tryd.underlying37 hi hz0 hz1 hz2 rfl (by decide) _ _ _ rfl (hown.alloc _) ⟨wr.heap.size, 0, none⟩ 1 1 [.int .u8 (n / 256 % 256)] rfl rfl (new_cell _ _ _) (by intro u hu; simp at hu; subst hu; rfl) (by unfold maxLen; omega) (by omega) (by simp; omega) ?_; intro v' w1 hown1 hgrow _)
      rw [row_next l 4 2 n _ (by omega) (by simp only [Nat.reduceSub, Nat.reduceAdd, Int.reducePow] <;> omega)] at hown1
      go_wp2_with fail
      go_roundw
      case rel => exact ⟨3, by omega, rfl, hown1, (Below.alloc hb (by omega) _).grown hgrow (by simp; omega) (fun k hk => (hown.lt k hk).1)⟩
      case measure => simp [intOf]
    · go_wp2_with (at_builtin; refine wpList_append_own _ rfl _ _ 37 rfl B 5 i0 (.int .u8 0) 1 1 Tryd.underlying37 hi hz0 hz1 hz2 rfl (by decide) _ _ _ rfl (hown.alloc _) ⟨wr.heap.size, 0, none⟩ 1 1 [.int .u8 (n % 256)] rfl rfl (new_cell _ _ _) (by intro u hu; simp at hu; subst hu; rfl) (by unfold maxLen; omega) (by omega) (by simp; omega) ?_; intro v' w1 hown1 hgrow _)
      rw [row_next l 4 3 n _ (by omega) (by simp only [Nat.reduceSub, Nat.reduceAdd, Int.reducePow] <;> omega)] at hown1
      go_wp2_with fail
      go_roundw
      case rel => exact ⟨4, by omega, rfl, hown1, (Below.alloc hb (by omega) _).grown hgrow (by simp; omega) (fun k hk => (hown.lt k hk).1)⟩
      case measure => simp [intOf]
    · rw [List.take_of_length_le (by rw [be_length]; omega)] at hown
      go_wp2_with fail
      go_ret
      exact ⟨_, rfl, by rw [List.length_append, be_length]; exact hown, hb⟩
set_option maxHeartbeats 3200000 in
theorem put_u64 (n : Int) (h0 : 0 ≤ n) (h1 : n ≤ 18446744073709551615) (B : Nat) (v : Value) (l : List UInt8) (hl : l.length ≤ 1000) (w : World) (hw : w.ownsRow B 5 1 v l.length (bc l)) (hB : B ≤ w.heap.size) :
    Calls Tryd.prog 21 #[v, .int .u64 n] w fun e w' => ∃ v', e = .returned v' ∧ w'.ownsRow B 5 1 v' (l ++ be 8 n).length (bc (l ++ be 8 n)) ∧ Below B w w' := by
  have c := width_u64
  obtain ⟨i0, hi, hz0, hz1, hz2⟩ := info_parts info_u8
  go_enter Tryd.func21, Tryd.ntmps21
  go_wp2_with fail
  (with_reducible refine (c _).mono ?_)
  rintro e w' ⟨rfl, rfl⟩
  go_wp2_with fail
  go_loopw [0, 9] (fun v i wr => ∃ k : Nat, k ≤ 8 ∧ i = .int .i64 k ∧ wr.ownsRow B 5 1 v (l.length + k) (bc (l ++ (be 8 n).take k)) ∧ Below B w wr) (fun _ i _ => 8 - (intOf i).toNat)
  case atStart => exact ⟨0, by omega, rfl, by simpa using hw, Below.refl _ _⟩
  case round =>
    obtain ⟨k, hk, rfl, hown, hb⟩ := hrel
    have hz := hb.size
    have hc : k = 0 ∨ k = 1 ∨ k = 2 ∨ k = 3 ∨ k = 4 ∨ k = 5 ∨ k = 6 ∨ k = 7 ∨ k = 8 := by omega
    rcases hc with rfl | rfl | rfl | rfl | rfl | rfl | rfl | rfl | rfl
    · go_wp2_with (at_builtin; refine wpList_append_own _ rfl _ _ 37 rfl B 5 i0 (.int .u8 0) 1 1 Tryd.underlying37 hi hz0 hz1 hz2 rfl (by decide) _ _ _ rfl (hown.alloc _) ⟨wr.heap.size, 0, none⟩ 1 1 [.int .u8 (n / 72057594037927936)] rfl rfl (new_cell _ _ _) (by intro u hu; simp at hu; subst hu; rfl) (by unfold maxLen; omega) (by omega) (by simp; omega) ?_; intro v' w1 hown1 hgrow _)
      rw [row_next l 8 0 n _ (by omega) (by simp only [Nat.reduceSub, Nat.reduceAdd, Int.reducePow] <;> omega)] at hown1
      go_wp2_with fail
      go_roundw
      case rel => exact ⟨1, by omega, rfl, hown1, (Below.alloc hb (by omega) _).grown hgrow (by simp; omega) (fun k hk => (hown.lt k hk).1)⟩
      case measure => simp [intOf]
    · go_wp2_with (at_builtin; refine wpList_append_own _ rfl _ _ 37 rfl B 5 i0 (.int .u8 0) 1 1 Tryd.underlying37 hi hz0 hz1 hz2 rfl (by decide) _ _ _ rfl (hown.alloc _) ⟨wr.heap.size, 0, none⟩ 1 1 [.int .u8 (n / 281474976710656 % 256)] rfl rfl (new_cell _ _ _) (by intro u hu; simp at hu; subst hu; rfl) (by unfold maxLen; omega) (by omega) (by simp; omega) ?_; intro v' w1 hown1 hgrow _)
      rw [row_next l 8 1 n _ (by omega) (by simp only [Nat.reduceSub, Nat.reduceAdd, Int.reducePow] <;> omega)] at hown1
      go_wp2_with fail
      go_roundw
      case rel => exact ⟨2, by omega, rfl, hown1, (Below.alloc hb (by omega) _).grown hgrow (by simp; omega) (fun k hk => (hown.lt k hk).1)⟩
      case measure => simp [intOf]
    · go_wp2_with (at_builtin; refine wpList_append_own _ rfl _ _ 37 rfl B 5 i0 (.int .u8 0) 1 1 Tryd.underlying37 hi hz0 hz1 hz2 rfl (by decide) _ _ _ rfl (hown.alloc _) ⟨wr.heap.size, 0, none⟩ 1 1 [.int .u8 (n / 1099511627776 % 256)] rfl rfl (new_cell _ _ _) (by intro u hu; simp at hu; subst hu; rfl) (by unfold maxLen; omega) (by omega) (by simp; omega) ?_; intro v' w1 hown1 hgrow _)
      rw [row_next l 8 2 n _ (by omega) (by simp only [Nat.reduceSub, Nat.reduceAdd, Int.reducePow] <;> omega)] at hown1
      go_wp2_with fail
      go_roundw
      case rel => exact ⟨3, by omega, rfl, hown1, (Below.alloc hb (by omega) _).grown hgrow (by simp; omega) (fun k hk => (hown.lt k hk).1)⟩
      case measure => simp [intOf]
    · go_wp2_with (at_builtin; refine wpList_append_own _ rfl _ _ 37 rfl B 5 i0 (.int .u8 0) 1 1 Tryd.underlying37 hi hz0 hz1 hz2 rfl (by decide) _ _ _ rfl (hown.alloc _) ⟨wr.heap.size, 0, none⟩ 1 1 [.int .u8 (n / 4294967296 % 256)] rfl rfl (new_cell _ _ _) (by intro u hu; simp at hu; subst hu; rfl) (by unfold maxLen; omega) (by omega) (by simp; omega) ?_; intro v' w1 hown1 hgrow _)
      rw [row_next l 8 3 n _ (by omega) (by simp only [Nat.reduceSub, Nat.reduceAdd, Int.reducePow] <;> omega)] at hown1
      go_wp2_with fail
      go_roundw
      case rel => exact ⟨4, by omega, rfl, hown1, (Below.alloc hb (by omega) _).grown hgrow (by simp; omega) (fun k hk => (hown.lt k hk).1)⟩
      case measure => simp [intOf]
    · go_wp2_with (at_builtin; refine wpList_append_own _ rfl _ _ 37 rfl B 5 i0 (.int .u8 0) 1 1 Tryd.underlying37 hi hz0 hz1 hz2 rfl (by decide) _ _ _ rfl (hown.alloc _) ⟨wr.heap.size, 0, none⟩ 1 1 [.int .u8 (n / 16777216 % 256)] rfl rfl (new_cell _ _ _) (by intro u hu; simp at hu; subst hu; rfl) (by unfold maxLen; omega) (by omega) (by simp; omega) ?_; intro v' w1 hown1 hgrow _)
      rw [row_next l 8 4 n _ (by omega) (by simp only [Nat.reduceSub, Nat.reduceAdd, Int.reducePow] <;> omega)] at hown1
      go_wp2_with fail
      go_roundw
      case rel => exact ⟨5, by omega, rfl, hown1, (Below.alloc hb (by omega) _).grown hgrow (by simp; omega) (fun k hk => (hown.lt k hk).1)⟩
      case measure => simp [intOf]
    · go_wp2_with (at_builtin; refine wpList_append_own _ rfl _ _ 37 rfl B 5 i0 (.int .u8 0) 1 1 Tryd.underlying37 hi hz0 hz1 hz2 rfl (by decide) _ _ _ rfl (hown.alloc _) ⟨wr.heap.size, 0, none⟩ 1 1 [.int .u8 (n / 65536 % 256)] rfl rfl (new_cell _ _ _) (by intro u hu; simp at hu; subst hu; rfl) (by unfold maxLen; omega) (by omega) (by simp; omega) ?_; intro v' w1 hown1 hgrow _)
      rw [row_next l 8 5 n _ (by omega) (by simp only [Nat.reduceSub, Nat.reduceAdd, Int.reducePow] <;> omega)] at hown1
      go_wp2_with fail
      go_roundw
      case rel => exact ⟨6, by omega, rfl, hown1, (Below.alloc hb (by omega) _).grown hgrow (by simp; omega) (fun k hk => (hown.lt k hk).1)⟩
      case measure => simp [intOf]
    · go_wp2_with (at_builtin; refine wpList_append_own _ rfl _ _ 37 rfl B 5 i0 (.int .u8 0) 1 1 Tryd.underlying37 hi hz0 hz1 hz2 rfl (by decide) _ _ _ rfl (hown.alloc _) ⟨wr.heap.size, 0, none⟩ 1 1 [.int .u8 (n / 256 % 256)] rfl rfl (new_cell _ _ _) (by intro u hu; simp at hu; subst hu; rfl) (by unfold maxLen; omega) (by omega) (by simp; omega) ?_; intro v' w1 hown1 hgrow _)
      rw [row_next l 8 6 n _ (by omega) (by simp only [Nat.reduceSub, Nat.reduceAdd, Int.reducePow] <;> omega)] at hown1
      go_wp2_with fail
      go_roundw
      case rel => exact ⟨7, by omega, rfl, hown1, (Below.alloc hb (by omega) _).grown hgrow (by simp; omega) (fun k hk => (hown.lt k hk).1)⟩
      case measure => simp [intOf]
    · go_wp2_with (at_builtin; refine wpList_append_own _ rfl _ _ 37 rfl B 5 i0 (.int .u8 0) 1 1 Tryd.underlying37 hi hz0 hz1 hz2 rfl (by decide) _ _ _ rfl (hown.alloc _) ⟨wr.heap.size, 0, none⟩ 1 1 [.int .u8 (n % 256)] rfl rfl (new_cell _ _ _) (by intro u hu; simp at hu; subst hu; rfl) (by unfold maxLen; omega) (by omega) (by simp; omega) ?_; intro v' w1 hown1 hgrow _)
      rw [row_next l 8 7 n _ (by omega) (by simp only [Nat.reduceSub, Nat.reduceAdd, Int.reducePow] <;> omega)] at hown1
      go_wp2_with fail
      go_roundw
      case rel => exact ⟨8, by omega, rfl, hown1, (Below.alloc hb (by omega) _).grown hgrow (by simp; omega) (fun k hk => (hown.lt k hk).1)⟩
      case measure => simp [intOf]
    · rw [List.take_of_length_le (by rw [be_length]; omega)] at hown
      go_wp2_with fail
      go_ret
      exact ⟨_, rfl, by rw [List.length_append, be_length]; exact hown, hb⟩
end Go.Proofs.YthfgjhffcbehbaaDoor.W
