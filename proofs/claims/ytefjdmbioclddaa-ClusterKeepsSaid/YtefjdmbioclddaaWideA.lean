import Derived.Test.YtefjdmbioclddaaRows
import Derived.Test.YtefjdmbioclddaaWdefs
import Derived.WalkKit
import Derived.WalkSpells
import Derived.WalkLawsBesides
import Derived.Lib.Hide
import Derived.Handy
import Derived.BigQuiet
import Derived.Deep.QuietTactic
namespace Go.Proofs.Ytefjdmbioclddaa.W
open Go.RowKit
set_option linter.unusedVariables false

set_option maxHeartbeats 400000 in
theorem join_lt (a b : Int) (ha : 0 ≤ a) (ha' : a < 4294967296) (hb : 0 ≤ b) (hb' : b < 4294967296) (w : World) :
    Calls Try.prog 72 #[.int .u64 a, .int .u64 b] w fun e w' => e = .returned (.int .u64 (a * 4294967296 + b)) ∧ w = w' := by
  go_enter Try.func72, Try.ntmps72
  go_wp2
  go_ret
  exact ⟨rfl, rfl⟩
set_option maxHeartbeats 400000 in
theorem whole_any (a b c d : Int) (ha : 0 ≤ a) (ha' : a < 4294967296) (hb : 0 ≤ b) (hb' : b < 4294967296) (hc : 0 ≤ c) (hc' : c < 4294967296) (hd : 0 ≤ d) (hd' : d < 4294967296) (w : World) :
    Calls Try.prog 65 #[.agg #[.int .u64 a, .int .u64 b, .int .u64 c, .int .u64 d]] w fun e w' => e = .returned (.tuple #[.int .u64 (d * 4294967296 + c), .int .u64 (b * 4294967296 + a)]) ∧ Below w.heap.size w w' := by
  go_enter Try.func65, Try.ntmps65
  go_wp2_with fail
  go_quiet ((go_at_call 72; exact quiet_eq (join_lt _ _ (by assumption) (by assumption) (by assumption) (by assumption) _)))
  go_wp2
  go_ret2
  exact ⟨rfl, by refine below_drewN ?_ _; go_grown⟩

set_option maxHeartbeats 400000 in
theorem plus_any (a b c d : Int) (h0 : 0 ≤ a) (h1 : a < 18446744073709551616) (h2 : 0 ≤ b) (h3 : b < 18446744073709551616) (h4 : 0 ≤ c) (h5 : c < 18446744073709551616) (h6 : 0 ≤ d) (h7 : d < 18446744073709551616) (w : World) :
    Calls Try.prog 63 #[.int .u64 a, .int .u64 b, .int .u64 c, .int .u64 d] w fun e w' => e = .returned (.tuple #[.int .u64 (plusH a b c d), .int .u64 (plusL b d), .bool (plusM a b c d)]) ∧ Below w.heap.size w w' := by
  have ea : Hid (a = a / 4294967296 * 4294967296 + a % 4294967296) := by show a = a / 4294967296 * 4294967296 + a % 4294967296; omega
  have eb : Hid (b = b / 4294967296 * 4294967296 + b % 4294967296) := by show b = b / 4294967296 * 4294967296 + b % 4294967296; omega
  have ec : Hid (c = c / 4294967296 * 4294967296 + c % 4294967296) := by show c = c / 4294967296 * 4294967296 + c % 4294967296; omega
  have ed : Hid (d = d / 4294967296 * 4294967296 + d % 4294967296) := by show d = d / 4294967296 * 4294967296 + d % 4294967296; omega
  go_enter Try.func63, Try.ntmps63
  go_wp2
  have hx0 := Int.emod_nonneg b (show (4294967296 : Int) ≠ 0 by decide)
  have hx0' := Int.emod_lt_of_pos b (show (0 : Int) < 4294967296 by decide)
  have hx2 := Int.emod_nonneg a (show (4294967296 : Int) ≠ 0 by decide)
  have hx2' := Int.emod_lt_of_pos a (show (0 : Int) < 4294967296 by decide)
  have hy0 := Int.emod_nonneg d (show (4294967296 : Int) ≠ 0 by decide)
  have hy0' := Int.emod_lt_of_pos d (show (0 : Int) < 4294967296 by decide)
  have hy2 := Int.emod_nonneg c (show (4294967296 : Int) ≠ 0 by decide)
  have hy2' := Int.emod_lt_of_pos c (show (0 : Int) < 4294967296 by decide)
  have hx1 : 0 ≤ b / 4294967296 ∧ b / 4294967296 < 4294967296 := by omega
  have hx3 : 0 ≤ a / 4294967296 ∧ a / 4294967296 < 4294967296 := by omega
  have hy1 : 0 ≤ d / 4294967296 ∧ d / 4294967296 < 4294967296 := by omega
  have hy3 : 0 ≤ c / 4294967296 ∧ c / 4294967296 < 4294967296 := by omega
  obtain ⟨hx1, hx1'⟩ := hx1
  obtain ⟨hx3, hx3'⟩ := hx3
  obtain ⟨hy1, hy1'⟩ := hy1
  obtain ⟨hy3, hy3'⟩ := hy3
  generalize b % 4294967296 = x0 at *
  generalize b / 4294967296 = x1 at *
  generalize a % 4294967296 = x2 at *
  generalize a / 4294967296 = x3 at *
  generalize d % 4294967296 = y0 at *
  generalize d / 4294967296 = y1 at *
  generalize c % 4294967296 = y2 at *
  generalize c / 4294967296 = y3 at *
  refine wp_loop_rounds 5 ?_
  rw [rounds_succ]
  go_wp2
  go_quiet (fail)
  go_wp2
  rw [rounds_succ]
  go_wp2
  go_quiet (fail)
  go_wp2
  rw [rounds_succ]
  go_wp2
  go_quiet (fail)
  go_wp2
  rw [rounds_succ]
  go_wp2
  go_quiet (fail)
  go_wp2
  rw [rounds_succ]
  go_wp2_with fail
  go_call (whole_any _ _ _ _ (by omega) (by omega) (by omega) (by omega) (by omega) (by omega) (by omega) (by omega) _) as e w1 ⟨rfl, hb1⟩
  obtain ⟨p1, p2, p3⟩ := plus_parts x0 x1 x2 x3 y0 y1 y2 y3 hx0 hx0' hx1 hx1' hx2 hx2' hx3 hx3' hy0 hy0' hy1 hy1' hy2 hy2' hy3 hy3'
  rw [← ea.out, ← eb.out, ← ec.out, ← ed.out] at p1 p3
  rw [← eb.out, ← ed.out] at p2
  have P1 := Lib.hid p1
  have P2 := Lib.hid p2
  have P3 := Lib.hid p3
  clear p1 p2 p3 ea eb ec ed
  go_wp2_with fail
  go_ret3
  refine ⟨ret3 P1.out P2.out P3.out, ?_⟩
  refine Below.trans (b := _) ?_ (hb1.mono ?_)
  all_goals repeat' (first | (with_reducible exact Below.refl _ _) | (with_reducible assumption) | (with_reducible refine below_drewN ?_ _) | (with_reducible refine Below.drew ?_) | (with_reducible refine Below.setCell ?_ ?_ _) | (with_reducible refine Below.alloc ?_ ?_ _) | (simp; done) | (simp; omega) | omega)
end Go.Proofs.Ytefjdmbioclddaa.W
