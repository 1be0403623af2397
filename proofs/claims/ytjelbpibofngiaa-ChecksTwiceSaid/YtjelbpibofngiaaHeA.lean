/- Layer 5's own code, walked: how many bytes a number has; numbers put behind bytes. -/
import Derived.Test.YtjelbpibofngiaaRows
import Derived.Test.YtjelbpibofngiaaWdefs
import Derived.Test.YtjelbpibofngiaaHdB
import Derived.Test.YtjelbpibofngiaaHdI
import Derived.WalkKit
import Derived.WalkSpells
import Derived.WalkLawsBesides
import Derived.Lib.Hide
import Derived.Lib.Zigzag
import Derived.Handy
import Derived.OwnWalk

namespace Go.Proofs.Ytjelbpibofngiaa.W
open Go.RowKit
set_option linter.unusedVariables false
set_option linter.unusedSimpArgs false
set_option maxHeartbeats 800000 in
theorem ones_u32 (w : World) : Calls Try.prog 89 #[.int .u64 4294967295] w fun e w' => e = .returned (.int .i64 32) ∧ w = w' := by
  go_enter Try.func89, Try.ntmps89
  go_wp2
  go_ret
  exact ⟨by kernel_rfl, rfl⟩
set_option maxHeartbeats 800000 in
theorem width_u32 (w : World) : Calls Try.prog 85 #[] w fun e w' => e = .returned (.int .i64 4) ∧ w = w' := by
  have hx : bits BinOp.xor IntKind.u32 IntKind.u32.max 0 = 4294967295 := by kernel_rfl
  have hy : IntKind.u64.wrap 4294967295 = 4294967295 := by decide
  go_enter Try.func85, Try.ntmps85
  go_wp2_with fail
  (with_reducible refine (ones_u32 _).mono ?_)
  rintro e w' ⟨rfl, rfl⟩
  go_wp2_with fail
  go_ret
  exact ⟨rfl, rfl⟩
/-- Bytes as a row of cells. -/
def bc (l : List UInt8) : List Value := l.map fun b => .int .u8 (b.toNat : Int)
theorem bc_length (l : List UInt8) : (bc l).length = l.length := by simp [bc]
theorem info_u8 : (Try.prog.info? 5).map (fun i => (i.zero, i.size, i.bytes)) = some (some (.int .u8 0), 1, 1) := by kernel_rfl
end Go.Proofs.Ytjelbpibofngiaa.W
