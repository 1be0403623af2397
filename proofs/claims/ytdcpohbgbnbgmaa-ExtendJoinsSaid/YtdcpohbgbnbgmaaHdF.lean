/- The document's own questions and references, walked. -/
import Derived.Test.YtdcpohbgbnbgmaaHdC
import Derived.Test.YtdcpohbgbnbgmaaHdI
namespace Go.Proofs.Ytdcpohbgbnbgmaa.W
open Go.RowKit Go.Sort
set_option linter.unusedVariables false
set_option linter.unusedSimpArgs false
/-- The first four bytes, or as many and noughts. -/
def refL (l : List UInt8) : List UInt8 := (l ++ [0, 0, 0, 0]).take 4
theorem refL_length (l : List UInt8) : (refL l).length = 4 := by
  unfold refL; rw [List.length_take, List.length_append]; simp
def padL (l : List UInt8) (k : Nat) : List UInt8 := l ++ List.replicate k 0
theorem pad_ref (l : List UInt8) (k : Nat) (h : 4 ≤ l.length + k) (hk : k ≤ 4) : (padL l k).take 4 = refL l := by
  unfold padL refL
  have e : ([0, 0, 0, 0] : List UInt8) = List.replicate k 0 ++ List.replicate (4 - k) 0 := by
    rw [List.replicate_append_replicate, show k + (4 - k) = 4 by omega]; rfl
  rw [e, ← List.append_assoc]
  exact (List.take_append_of_le_length (by rw [List.length_append, List.length_replicate]; omega)).symm
theorem pad_next (l : List UInt8) (k : Nat) : padL l k ++ [0] = padL l (k + 1) := by
  unfold padL
  rw [List.append_assoc, show ([0] : List UInt8) = List.replicate 1 0 from rfl, List.replicate_append_replicate]
theorem pad_length (l : List UInt8) (k : Nat) : (padL l k).length = l.length + k := by unfold padL; simp
set_option maxHeartbeats 800000 in
theorem rref_any (l : List UInt8) (hl : (l.length : Int) ≤ 4611686018427387904) (w : World) :
    Calls Try.prog 32 #[.string (bs l)] w fun e w' => e = .returned (.int .u32 (num (refL l))) ∧ w = w' := by
  have z1 : (ByteArray.mk #[0]) = bs [0] := rfl
  have HZ := Lib.hid z1
  go_enter Try.func32, Try.ntmps32
  go_wp2
  go_loop [3] (fun t => ∃ k : Nat, k ≤ 4 ∧ (k = 0 ∨ l.length + k ≤ 4) ∧ t = .string (bs (padL l k))) (fun t => match t with | .string s => 4 - s.size | _ => 0)
  case atStart => exact ⟨0, by omega, .inl rfl, by simp [padL]⟩
  case round =>
    obtain ⟨k, hk, hk2, rfl⟩ := hrel
    have hp := pad_length l k
    by_cases hlt : (padL l k).length < 4
    · go_wp2
      go_round
      case rel => exact ⟨k + 1, by omega, .inr (by omega), by rw [pad_next]⟩
      case measure => simp [HZ.out, bs_append, bs_size]; omega
    · have c := number_any (cut (padL l k) 0 4) (by rw [cut_len]; omega)
      have e : cut (padL l k) 0 4 = refL l := by
        unfold cut
        rw [List.drop_zero]
        exact pad_ref l k (by omega) hk
      obtain ⟨n0, n1⟩ := num_range (refL l)
      rw [refL_length] at n1
      simp only [Int.reducePow] at n1
      have hs := fun w => slice_to (padL l k) 4 (by omega) w
      rw [e] at c
      go_wp2_with fail
      (with_reducible refine (c _).mono ?_)
      rintro e w1 ⟨rfl, rfl⟩
      go_wp2_with fail
      go_ret
      exact ⟨ret1 (by (try simp only [wrap64, wrap32, IntKind.wrap_u64, IntKind.wrap_i64, IntKind.wrap_u32, IntKind.wrap_i32, IntKind.wrap_u8, IntKind.wrap_u16]) <;> omega), rfl⟩
end Go.Proofs.Ytdcpohbgbnbgmaa.W
