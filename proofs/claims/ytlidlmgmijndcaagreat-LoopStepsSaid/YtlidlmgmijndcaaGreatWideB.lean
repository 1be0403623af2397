import Derived.Test.YtlidlmgmijndcaaGreatRows
import Derived.Test.YtlidlmgmijndcaaGreatWdefs
import Derived.Test.YtlidlmgmijndcaaGreatWideA
import Derived.WalkSpells
import Derived.WalkLawsBesides
import Derived.Lib.Hide
import Derived.Handy
namespace Go.Proofs.YtlidlmgmijndcaaGreat.W
open Go.RowKit
set_option linter.unusedVariables false

set_option maxHeartbeats 400000 in
theorem mul_any (a b : Int) (h0 : 0 ≤ a) (h1 : a < 18446744073709551616) (h2 : 0 ≤ b) (h3 : b < 18446744073709551616) (w : World) :
    Calls Tryz.prog 41 #[.int .u64 a, .int .u64 b] w fun e w' => e = .returned (.tuple #[.int .u64 (mulH a b), .int .u64 (mulL a b)]) ∧ Below w.heap.size w w' := by
  have ea : Hid (a = a / 4294967296 * 4294967296 + a % 4294967296) := by show a = a / 4294967296 * 4294967296 + a % 4294967296; omega
  have eb : Hid (b = b / 4294967296 * 4294967296 + b % 4294967296) := by show b = b / 4294967296 * 4294967296 + b % 4294967296; omega
  go_enter Tryz.func41, Tryz.ntmps41
  go_wp2
  have hx0 := Int.emod_nonneg a (show (4294967296 : Int) ≠ 0 by decide)
  have hx0' := Int.emod_lt_of_pos a (show (0 : Int) < 4294967296 by decide)
  have hy0 := Int.emod_nonneg b (show (4294967296 : Int) ≠ 0 by decide)
  have hy0' := Int.emod_lt_of_pos b (show (0 : Int) < 4294967296 by decide)
  have hx1 : 0 ≤ a / 4294967296 ∧ a / 4294967296 < 4294967296 := by omega
  have hy1 : 0 ≤ b / 4294967296 ∧ b / 4294967296 < 4294967296 := by omega
  obtain ⟨hx1, hx1'⟩ := hx1
  obtain ⟨hy1, hy1'⟩ := hy1
  generalize a % 4294967296 = x0 at *
  generalize a / 4294967296 = x1 at *
  generalize b % 4294967296 = y0 at *
  generalize b / 4294967296 = y1 at *
  obtain ⟨b00, c00⟩ := prod_bound x0 y0 hx0 hx0' hy0 hy0'
  obtain ⟨b01, c01⟩ := prod_bound x0 y1 hx0 hx0' hy1 hy1'
  obtain ⟨b10, c10⟩ := prod_bound x1 y0 hx1 hx1' hy0 hy0'
  obtain ⟨b11, c11⟩ := prod_bound x1 y1 hx1 hx1' hy1 hy1'
  refine wp_loop_rounds 3 ?_
  rw [rounds_succ]
  go_wp2
  refine wp_loop_rounds 3 ?_
  rw [rounds_succ]
  go_wp2
  go_quiet (fail)
  go_wp2
  rw [rounds_succ]
  go_wp2
  go_quiet (fail)
  go_wp2
  rw [rounds_succ]
  go_wp2
  rw [rounds_succ]
  go_wp2
  refine wp_loop_rounds 3 ?_
  rw [rounds_succ]
  go_wp2
  go_quiet (fail)
  go_wp2
  rw [rounds_succ]
  go_wp2
  go_quiet (fail)
  go_wp2
  rw [rounds_succ]
  go_wp2
  rw [rounds_succ]
  go_wp2_with fail
  have m := mul_parts x0 x1 y0 y1 hx0 hx0' hx1 hx1' hy0 hy0' hy1 hy1' _ _ _ _ rfl rfl rfl rfl b00 b01 b10 b11
  rw [← ea.out, ← eb.out] at m
  have M := Lib.hid m
  clear m ea eb
  go_call (whole_any _ _ _ _ (by omega) (by omega) (by omega) (by omega) (by omega) (by omega) (by omega) (by omega) _) as e w1 ⟨rfl, hb1⟩
  go_wp2_with fail
  go_ret2
  refine ⟨ret2 M.out.1 M.out.2, ?_⟩
  refine Below.trans (b := _) ?_ (hb1.mono ?_)
  all_goals repeat' (first | (with_reducible exact Below.refl _ _) | (with_reducible assumption) | (with_reducible refine below_drewN ?_ _) | (with_reducible refine Below.drew ?_) | (with_reducible refine Below.setCell ?_ ?_ _) | (with_reducible refine Below.alloc ?_ ?_ _) | (simp; done) | (simp; omega) | omega)
end Go.Proofs.YtlidlmgmijndcaaGreat.W
