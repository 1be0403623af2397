/- What the laws of layer 4 call besides: the small case that must go well; bounds of arguments. -/
import Derived.Test.YtpolcaghofnahaaEraA
import Derived.Test.YtpolcaghofnahaaFixZ
import Derived.Test.YtpolcaghofnahaaWideZ
import Derived.OpenShut
import Derived.Lib.Hide
namespace Go.Proofs.Ytpolcaghofnahaa.W
open Go.RowKit
set_option linter.unusedVariables false
set_option linter.unusedSimpArgs false
theorem u32_bounds {a : Int} (h : (Lit.int .u32 a).wf = true) : 0 ≤ a ∧ a < 4294967296 := by
  have := bounds_u32 h; omega
set_option maxHeartbeats 400000 in
theorem eshown_any (w : World) : Calls Try.prog 20 #[] w fun e w' => e = .returned (.bool true) ∧ Below w.heap.size w w' := by
  have h1 := df_any 5 18446744073709551611 (by decide) (by decide) (by decide) (by decide)
  have h2 := sh_any 1 (by decide) (by decide)
  have h3 := long_any 1 (by decide) (by decide)
  rw [show dfI 5 18446744073709551611 = 10 by decide] at h1
  rw [show shI 1 = 1 by decide] at h2
  go_enter Try.func20, Try.ntmps20
  go_wp2_with fail
  (with_reducible refine (h1 _).mono ?_)
  rintro e w1 ⟨rfl, hb1⟩
  go_wp2_with fail
  (with_reducible refine (h2 _).mono ?_)
  rintro e w2 ⟨rfl, rfl⟩
  go_wp2_with fail
  (with_reducible refine (h3 _).mono ?_)
  rintro e w3 ⟨rfl, rfl⟩
  go_wp2_with fail
  go_ret
  exact ⟨rfl, hb1⟩
end Go.Proofs.Ytpolcaghofnahaa.W
