import Derived.Test.YtlidlmgmijndcaaGreatRows
import Derived.Test.YtlidlmgmijndcaaGreatWdefs
import Derived.Test.YtlidlmgmijndcaaGreatFdefs
import Derived.Test.YtlidlmgmijndcaaGreatWideA
import Derived.WalkSpells
import Derived.WalkLawsBesides
import Derived.Lib.Hide
import Derived.Handy
namespace Go.Proofs.YtlidlmgmijndcaaGreat.W
open Go.RowKit
set_option linter.unusedVariables false

set_option maxHeartbeats 400000 in
theorem half_any (r n d : Int) (hr : 0 ≤ r) (hrd : r < d) (hn : 0 ≤ n) (hn' : n < 4294967296) (hd : 9223372036854775808 ≤ d) (hd' : d < 18446744073709551616) (w : World) :
    Calls Tryz.prog 95 #[.int .u64 r, .int .u64 n, .int .u64 d] w fun e w' => e = .returned (.tuple #[.int .u64 ((r * 4294967296 + n) / d), .int .u64 ((r * 4294967296 + n) % d)]) ∧ Below w.heap.size w w' := by
  have ed : Hid (d = d / 4294967296 * 4294967296 + d % 4294967296) := by show d = d / 4294967296 * 4294967296 + d % 4294967296; omega
  have hx0 := Int.emod_nonneg d (show (4294967296 : Int) ≠ 0 by decide)
  have hx0' := Int.emod_lt_of_pos d (show (0 : Int) < 4294967296 by decide)
  have hx1 : 2147483648 ≤ d / 4294967296 ∧ d / 4294967296 < 4294967296 := by omega
  obtain ⟨hx1, hx1'⟩ := hx1
  go_enter Tryz.func95, Tryz.ntmps95
  go_wp2
  go_step3
  go_wp2
  generalize d % 4294967296 = d0 at *
  generalize d / 4294967296 = d1 at *
  have hz : (d1 == 0) = false := by simp; omega
  go_quiet (fail)
  go_wp2
  go_step3
  go_wp2
  have G0 := Guess.first r n d1 d0 hr (by rw [← ed.out]; exact hrd) hn hn' hx0 hx0' hx1 hx1'
  go_loopw [9, 10] (fun a b wr => ∃ (g o : Int), a = .int .u64 g ∧ b = .int .u64 o ∧ Guess r n d1 d0 g o ∧ wr.cell? ⟨w.heap.size + 1, 0, none⟩ = some (.int .u64 d0) ∧ wr.cell? ⟨w.heap.size + 1, 1, none⟩ = some (.int .u64 d1) ∧ Below w.heap.size w wr) (fun a _ _ => (intOf a).toNat)
  case atStart => exact ⟨_, _, rfl, rfl, G0, by go_simp, by go_simp, by repeat' (first | (with_reducible exact Below.refl _ _) | (with_reducible assumption) | (with_reducible refine below_drewN ?_ _) | (with_reducible refine Below.drew ?_) | (with_reducible refine Below.setCell ?_ ?_ _) | (with_reducible refine Below.alloc ?_ ?_ _) | (simp; done) | (simp; omega) | omega)⟩
  case round =>
    obtain ⟨g, o, rfl, rfl, G, hc0, hc1, hB⟩ := hrel
    have g0 := G.g0
    have g1 := G.g1
    have o0 := G.o0
    have o1 := G.o1
    obtain ⟨p0, p1⟩ := G.prod hx0 hx0'
    clear G0
    have hw := IntWalk.u64_in (g * d0) (by omega)
    have HB := fun n => below_drewN hB n
    have HB := Lib.hid HB
    clear hB
    have hM0 := Int.emod_nonneg (r * 4294967296 + n) (show d ≠ 0 by omega)
    have hM1 := Int.emod_lt_of_pos (r * 4294967296 + n) (show 0 < d by omega)
    by_cases hlt : o * 4294967296 + n < g * d0
    · have b1 := (G.less hn hn' hx0 hx0' hx1 hx1' hlt).2
      have N := Lib.hid (fun h => G.next hn hn' hx0 hx0' hx1 hx1' hlt h)
      have B := Lib.hid (fun h => G.broke hn hn' hx0 hx0' hx1 hx1' hlt h)
      go_wp2_with fail
      go_quiet ((go_at_call 93; exact quiet_eq (join_lt _ _ (by omega) (by omega) (by omega) (by omega) _)))
      by_cases hb : 4294967296 ≤ o + d1
      · go_wp2
        rw [Exit.noGoto_ret]
        go_ret2
        have Q := B.out hb
        rw [← ed.out] at Q
        exact ⟨ret2 Q.1 (by rw [rest_wraps _ _ _ _ (by rw [Q.2]; exact hM0) (by rw [Q.2]; omega)]; exact Q.2), HB.out _⟩
      · go_wp2
        go_roundw
        case rel => exact ⟨g - 1, o + d1, rfl, rfl, N.out (by omega), hc0, hc1, HB.out _⟩
        case measure => simp [intOf]; omega
    · go_wp2_with fail
      go_quiet ((go_at_call 93; exact quiet_eq (join_lt _ _ (by omega) (by omega) (by omega) (by omega) _)))
      have S := Lib.hid (G.stop hn hn' hx0 hx0' hx1 hx1' (by omega))
      go_wp2
      rw [Exit.noGoto_ret]
      go_ret2
      have Q := S.out
      rw [← ed.out] at Q
      exact ⟨ret2 Q.1 (by rw [rest_wraps _ _ _ _ (by rw [Q.2]; exact hM0) (by rw [Q.2]; omega)]; exact Q.2), HB.out _⟩
end Go.Proofs.YtlidlmgmijndcaaGreat.W
