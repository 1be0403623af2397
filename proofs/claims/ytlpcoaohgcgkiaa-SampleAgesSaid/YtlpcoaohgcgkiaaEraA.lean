/- Layer 4 as plain functions on whole numbers, and the walks of its functions. -/
import Derived.Test.YtlpcoaohgcgkiaaFixD
namespace Go.Proofs.Ytlpcoaohgcgkiaa.W
open Go.RowKit
set_option linter.unusedVariables false
set_option linter.unusedSimpArgs false
/-- How much a is behind b. -/
def dfI (a b : Int) : Int := if (a - b) % 18446744073709551616 = 9223372036854775808 then -9223372036854775807 else if (a - b) % 18446744073709551616 < 9223372036854775808 then (a - b) % 18446744073709551616 else (a - b) % 18446744073709551616 - 18446744073709551616
theorem dfI_range (a b : Int) : -9223372036854775807 ≤ dfI a b ∧ dfI a b ≤ 9223372036854775807 := by unfold dfI; omega
set_option maxHeartbeats 800000 in
theorem parts_any (a : Int) (h : 0 ≤ a) (h' : a < 18446744073709551616) (w : World) :
    Calls Try.prog 73 #[.int .u64 a] w fun e w' => e = .returned (.agg #[.int .u32 (a / 4294967296), .int .u32 (a % 4294967296)]) ∧ Below w.heap.size w w' := by
  go_enter Try.func73, Try.ntmps73
  go_wp2
  exact bodyPost_ret (v := .agg #[.int .u32 (a / 4294967296), .int .u32 (a % 4294967296)]) (by simp [results, Try.results73, go_sem]) rfl ⟨rfl, by repeat' (first | (with_reducible exact Below.refl _ _) | (with_reducible assumption) | (with_reducible refine below_drewN ?_ _) | (with_reducible refine Below.drew ?_) | (with_reducible refine Below.setCell ?_ ?_ _) | (with_reducible refine Below.alloc ?_ ?_ _) | (simp; done) | (simp; omega) | omega)⟩
set_option maxHeartbeats 800000 in
theorem df_any (a b : Int) (h : 0 ≤ a) (h' : a < 18446744073709551616) (g : 0 ≤ b) (g' : b < 18446744073709551616) (w : World) :
    Calls Try.prog 62 #[.int .u64 a, .int .u64 b] w fun e w' => e = .returned (.int .i64 (dfI a b)) ∧ Below w.heap.size w w' := by
  obtain ⟨d, hd⟩ : ∃ d, (a - b) % 18446744073709551616 = d := ⟨_, rfl⟩
  have e1 : IntKind.u64.wrap (a - b) = d := by rw [IntKind.wrap_u64, hd]
  obtain ⟨d0, d1⟩ : 0 ≤ d ∧ d < 18446744073709551616 := by omega
  have c1 := parts_any d d0 d1
  have hv : dfI a b = if d = 9223372036854775808 then -9223372036854775807 else if d < 9223372036854775808 then d else d - 18446744073709551616 := by unfold dfI; rw [hd]
  rw [hv]
  clear hv hd
  go_enter Try.func62, Try.ntmps62
  go_wp2_with fail
  (with_reducible refine (c1 _).mono ?_)
  rintro e w1 ⟨rfl, hb⟩
  go_wp2_with fail
  all_goals go_ret
  all_goals exact ⟨ret1 (by (try simp only [wrap64, wrap32, IntKind.wrap_u64, IntKind.wrap_i64, IntKind.wrap_u32, IntKind.wrap_i32, IntKind.wrap_u8, IntKind.wrap_u16]) <;> omega), hb⟩
end Go.Proofs.Ytlpcoaohgcgkiaa.W
