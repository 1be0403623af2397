/- Layer 6's own code, walked: pairs of bytes, lengths, MACs, letters. -/
import Derived.Test.YtdcpohbgbnbgmaaWdefs
import Derived.Test.YtdcpohbgbnbgmaaEdB
import Derived.Test.YtdcpohbgbnbgmaaHeB
import Derived.Test.YtdcpohbgbnbgmaaHdI
import Derived.WalkKit
import Derived.OwnWalk
import Derived.Lib.AppendStr
import Derived.Maps.AppendAt
namespace Go.Proofs.Ytdcpohbgbnbgmaa.W
open Go.RowKit
set_option linter.unusedVariables false
set_option linter.unusedSimpArgs false
theorem or_pair (a c : Int) (a0 : 0 ≤ a) (a1 : a < 256) (c0 : 0 ≤ c) (c1 : c < 256) : bits .or .i64 (a * 256) c = a * 256 + c := by
  obtain ⟨a, rfl⟩ := Int.eq_ofNat_of_zero_le a0
  obtain ⟨c, rfl⟩ := Int.eq_ofNat_of_zero_le c0
  have e5 : a * 256 ||| c = a * 256 + c := by
    have h8 := Nat.two_pow_add_eq_or_of_lt (b := c) (i := 8) (by omega) a
    rw [show a * 256 = 2 ^ 8 * a by omega, ← h8]
  have h1 : (BitVec.ofInt 64 (((a * 256 : Nat)) : Int)).toNat = a * 256 := by
    rw [BitVec.ofInt_natCast, BitVec.toNat_ofNat]; exact Nat.mod_eq_of_lt (by omega)
  have h2 : (BitVec.ofInt 64 (c : Int)).toNat = c := by
    rw [BitVec.ofInt_natCast, BitVec.toNat_ofNat]; exact Nat.mod_eq_of_lt (by omega)
  rw [show ((a : Int) * 256) = ((a * 256 : Nat) : Int) by omega]
  show IntKind.i64.wrap ((BitVec.ofInt 64 ((a * 256 : Nat) : Int) ||| BitVec.ofInt 64 (c : Int)).toNat : Int) = _
  rw [BitVec.toNat_or, h1, h2, e5, IntKind.wrap_i64]
  omega
theorem num_two (l : List UInt8) (h : 2 ≤ l.length) : num (cut l 0 2) = byteAt l 0 * 256 + byteAt l 1 := by
  match l, h with
  | a :: b :: r, _ => simp [cut, num, byteAt]
set_option maxHeartbeats 1600000 in
theorem pair_any (l : List UInt8) (h : 2 ≤ l.length) (w : World) :
    Calls Try.prog 35 #[.string (bs l)] w fun e w' => e = .returned (.int .i64 (num (cut l 0 2))) ∧ ∃ m, w' = w.drewN m := by
  have i0 : ∀ w, (Instr.index 9 (.string (bs l)) (.int .i64 0)).run Try.prog w = .ok (.int .u8 (byteAt l 0)) w := index_at l 0 (by omega)
  have i1 : ∀ w, (Instr.index 9 (.string (bs l)) (.int .i64 1)).run Try.prog w = .ok (.int .u8 (byteAt l 1)) w := index_at l 1 (by omega)
  obtain ⟨a0, a1⟩ := byteAt_range l 0
  obtain ⟨c0, c1⟩ := byteAt_range l 1
  rw [num_two l h, ← or_pair _ _ a0 a1 c0 c1]
  generalize byteAt l 0 = a at *
  generalize byteAt l 1 = c at *
  generalize bs l = s at *
  go_enter Try.func35, Try.ntmps35
  go_wp2_with fail
  go_quiet (fail)
  go_wp2_with fail
  go_ret
  exact ⟨rfl, _, rfl⟩
def pairB (n : Int) : Bool := decide (0 ≤ n) && decide (n ≤ 65535)
def lenB (n : Int) : Bool := pairB n && decide (16 ≤ n) && (n % 4 == 0)
set_option maxHeartbeats 1600000 in
theorem isPair_any (n : Int) (w : World) :
    Calls Try.prog 25 #[.int .i64 n] w fun e w' => e = .returned (.bool (pairB n)) ∧ w = w' := by
  unfold pairB
  go_enter Try.func25, Try.ntmps25
  go_wp2
  all_goals go_ret
  all_goals exact ⟨ret1b (by simp <;> omega), rfl⟩
set_option maxHeartbeats 1600000 in
theorem isLength_any (n : Int) (w : World) :
    Calls Try.prog 26 #[.int .i64 n] w fun e w' => e = .returned (.bool (lenB n)) ∧ w = w' := by
  have c := isPair_any n
  unfold lenB
  generalize pairB n = x at *
  cases x
  · go_enter Try.func26, Try.ntmps26
    go_wp2_with fail
    (with_reducible refine (c _).mono ?_)
    rintro e w' ⟨rfl, rfl⟩
    go_wp2_with fail
    go_ret
    exact ⟨rfl, rfl⟩
  · by_cases h : 16 ≤ n
    · go_enter Try.func26, Try.ntmps26
      go_wp2_with fail
      (with_reducible refine (c _).mono ?_)
      rintro e w' ⟨rfl, rfl⟩
      go_wp2_with fail
      go_ret
      exact ⟨ret1b (by simp; omega), rfl⟩
    · go_enter Try.func26, Try.ntmps26
      go_wp2_with fail
      (with_reducible refine (c _).mono ?_)
      rintro e w' ⟨rfl, rfl⟩
      go_wp2_with fail
      go_ret
      exact ⟨ret1b (by simp; omega), rfl⟩
set_option maxHeartbeats 1600000 in
theorem isMAC_any (l : List UInt8) (hn : l.length ≤ 1000000) (w : World) :
    Calls Try.prog 22 #[.string (bs l)] w fun e w' => e = .returned (.bool (macN l.length)) ∧ w = w' := by
  have hs := bs_size l
  generalize bs l = s at *
  generalize l.length = n at *
  have hc : n = 0 ∨ n = 4 ∨ n = 20 ∨ n = 24 ∨ (macN n = false ∧ ¬ (n : Int) = 0 ∧ ¬ (n : Int) = 4 ∧ ¬ (n : Int) = 20 ∧ ¬ (n : Int) = 24) := by
    by_cases h : macN n = false
    · refine .inr (.inr (.inr (.inr ⟨h, ?_⟩)))
      unfold macN at h
      simp at h
      omega
    · unfold macN at h
      simp at h
      omega
  rcases hc with rfl | rfl | rfl | rfl | ⟨h, h0, h1, h2, h3⟩
  all_goals
    (try rw [h])
    go_enter Try.func22, Try.ntmps22
    go_wp2
    go_ret
    exact ⟨rfl, rfl⟩
def letterI (c : Int) : Int := if c < 33 ∨ 126 < c then 63 else c
set_option maxHeartbeats 1600000 in
theorem letter_any (c : Int) (w : World) :
    Calls Try.prog 31 #[.int .u8 c] w fun e w' => e = .returned (.int .u8 (letterI c)) ∧ w = w' := by
  unfold letterI
  by_cases h : c < 33
  · rw [if_pos (.inl h)]
    go_enter Try.func31, Try.ntmps31
    go_wp2
    go_ret
    exact ⟨rfl, rfl⟩
  · by_cases h2 : 126 < c
    · rw [if_pos (.inr h2)]
      go_enter Try.func31, Try.ntmps31
      go_wp2
      go_ret
      exact ⟨rfl, rfl⟩
    · rw [if_neg (by omega)]
      go_enter Try.func31, Try.ntmps31
      go_wp2
      go_ret
      exact ⟨rfl, rfl⟩
theorem new_cells (w : World) (cs : List Value) (t : TypeId) : ∀ j u, cs[j]? = some u → (w.alloc (.cells cs.toArray t)).cell? ((⟨w.heap.size, 0, none⟩ : Addr).add j) = some u := by
  intro j u hu
  rw [Addr.add_lit, Nat.zero_add, cell_of_row _ _ _ _ _ _ (heap_alloc_new _ _)]
  simpa using hu
theorem be_pair (n : Int) (h0 : 0 ≤ n) (h1 : n ≤ 65535) : bc (be 2 n) = [.int .u8 (n / 256), .int .u8 (n % 256)] := by
  simp only [be, bc, List.map, Int.pow_one, Int.pow_zero, Int.ediv_one]
  rw [b8_nat _ (by omega) (by omega), b8_nat _ (by omega) (by omega)]
  rw [show n / 256 % 256 = n / 256 by omega]
set_option maxHeartbeats 3200000 in
theorem putPair_any (n : Int) (h0 : 0 ≤ n) (h1 : n ≤ 65535) (B : Nat) (v : Value) (l : List UInt8) (hl : l.length ≤ 2000000) (w : World) (hw : w.ownsRow B 5 1 v l.length (bc l)) (hB : B ≤ w.heap.size) :
    Calls Try.prog 27 #[v, .int .i64 n] w fun e w' => ∃ v', e = .returned v' ∧ w'.ownsRow B 5 1 v' (l ++ be 2 n).length (bc (l ++ be 2 n)) ∧ w.grownBy w' v.ownBlock := by
  obtain ⟨i0, hi, hz0, hz1, hz2⟩ := info_parts info_u8
  have hb : bc (l ++ be 2 n) = bc l ++ [.int .u8 (n / 256), .int .u8 (n % 256)] := by
    rw [← be_pair n h0 h1]; simp [bc]
  have hlen : (l ++ be 2 n).length = l.length + 2 := by rw [List.length_append, be_length]
  rw [hb, hlen]
  clear hb hlen
  have k1 : IntKind.u8.wrap (n / 256) = n / 256 := by rw [IntKind.wrap_u8]; omega
  have k2 : IntKind.u8.wrap n = n % 256 := by rw [IntKind.wrap_u8]
  go_enter Try.func27, Try.ntmps27
  go_wp2_with (at_builtin; refine wpList_append_own _ rfl _ _ 55 rfl B 5 i0 (.int .u8 0) 1 1 Try.underlying55 hi hz0 hz1 hz2 rfl (by decide) _ _ _ rfl (hw.alloc _) ⟨w.heap.size, 0, none⟩ 2 2 [.int .u8 (n / 256), .int .u8 (n % 256)] rfl rfl (new_cells _ _ _) (by intro u hu; simp at hu; rcases hu with rfl | rfl <;> rfl) (by unfold maxLen; omega) (by omega) (by simp; omega) ?_; intro v' w1 hown1 hgrow _)
  go_wp2_with fail
  go_ret
  exact ⟨_, rfl, by simpa using hown1, (World.grownBy_alloc w _ _).trans hgrow⟩
end Go.Proofs.Ytdcpohbgbnbgmaa.W
