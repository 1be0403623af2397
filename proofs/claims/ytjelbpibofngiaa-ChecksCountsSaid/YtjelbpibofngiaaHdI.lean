/- Bytes and parts of a text, as the walks ask for them. -/
import Derived.Test.YtjelbpibofngiaaHdB
import Derived.Test.YtjelbpibofngiaaHdR
namespace Go.Proofs.Ytjelbpibofngiaa.W
open Go.RowKit
set_option linter.unusedVariables false
set_option linter.unusedSimpArgs false
attribute [go_sem] bs_at bs_cut cut_len cut_end bs_list
theorem index_at (l : List UInt8) (i : Nat) (h : i < l.length) (w : World) : (Instr.index 9 (.string (bs l)) (.int .i64 i)).run Try.prog w = .ok (.int .u8 (byteAt l i)) w := by
  have hi : i < (bs l).size := by rw [bs_size]; exact h
  rw [run_index_string _ _ _ _ _ Try.underlying9, dif_pos (by omega), ← bs_at l i hi]
  rfl
theorem slice_from (l : List UInt8) (a : Nat) (h : a ≤ l.length) (w : World) : (Instr.slice 9 (.string (bs l)) (some (.int .i64 a)) none none).run Try.prog w = .ok (.string (bs (l.drop a))) w := by
  rw [run_slice_string_l _ _ _ Try.underlying9 .i64 a (by omega) (by rw [bs_size]; omega), bs_cut, bs_size, show ((a : Int).toNat) = a by omega, cut_end]
end Go.Proofs.Ytjelbpibofngiaa.W
