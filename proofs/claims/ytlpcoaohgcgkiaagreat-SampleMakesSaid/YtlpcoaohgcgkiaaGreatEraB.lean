/- The document's own answers of layer 4, walked. -/
import Derived.Test.YtlpcoaohgcgkiaaGreatEraA
import Derived.Test.YtlpcoaohgcgkiaaGreatFixF
import Derived.Lib.Hide
namespace Go.Proofs.YtlpcoaohgcgkiaaGreat.W
open Go.RowKit
set_option linter.unusedVariables false
set_option linter.unusedSimpArgs false
set_option maxHeartbeats 800000 in
theorem rdf_any (a b : Int) (h : 0 ≤ a) (h' : a < 18446744073709551616) (g : 0 ≤ b) (g' : b < 18446744073709551616) (w : World) :
    Calls Tryz.prog 24 #[.int .u64 a, .int .u64 b] w fun e w' => e = .returned (.int .i64 (dfI a b)) ∧ w = w' := by
  obtain ⟨d, hd⟩ : ∃ d, (a - b) % 18446744073709551616 = d := ⟨_, rfl⟩
  obtain ⟨f, hf⟩ : ∃ f, (b - a) % 18446744073709551616 = f := ⟨_, rfl⟩
  have e1 : IntKind.u64.wrap (a - b) = d := by rw [IntKind.wrap_u64, hd]
  have e2 : IntKind.u64.wrap (b - a) = f := by rw [IntKind.wrap_u64, hf]
  obtain ⟨d0, d1⟩ : 0 ≤ d ∧ d < 18446744073709551616 := by omega
  obtain ⟨f0, f1⟩ : 0 ≤ f ∧ f < 18446744073709551616 := by omega
  have hv : dfI a b = if d = 9223372036854775808 then -9223372036854775807 else if d < 9223372036854775808 then d else d - 18446744073709551616 := by unfold dfI; rw [hd]
  have hdf : d = 0 ∨ f = 18446744073709551616 - d := by omega
  rw [hv]
  clear hv hd hf
  by_cases hh : d < 9223372036854775808
  · go_enter Tryz.func24, Tryz.ntmps24
    go_wp2_with fail
    go_ret
    exact ⟨ret1 (by (try simp only [wrap64, wrap32, IntKind.wrap_u64, IntKind.wrap_i64, IntKind.wrap_u32, IntKind.wrap_i32, IntKind.wrap_u8, IntKind.wrap_u16]) <;> omega), rfl⟩
  · have c1 := rcut_is true f false (if d = 9223372036854775808 then -9223372036854775807 else if d < 9223372036854775808 then d else d - 18446744073709551616) f0 f1 (by simp only [restI, isB, cutI, if_true, if_false, Bool.false_eq_true]; omega)
    generalize (if d = 9223372036854775808 then -9223372036854775807 else if d < 9223372036854775808 then d else d - 18446744073709551616) = v at *
    go_enter Tryz.func24, Tryz.ntmps24
    go_wp2_with fail
    (with_reducible refine (c1 _).mono ?_)
    rintro e w1 ⟨rfl, rfl⟩
    go_wp2_with fail
    go_ret
    exact ⟨rfl, rfl⟩
end Go.Proofs.YtlpcoaohgcgkiaaGreat.W
