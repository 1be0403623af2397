/- What the laws of layer 1 call besides: the small case that must go well. -/
import Derived.Test.YtgbioeekdnglhaaRows
import Derived.Test.YtgbioeekdnglhaaWideB
import Derived.Test.YtgbioeekdnglhaaWideG
import Derived.Test.YtgbioeekdnglhaaWideE
import Derived.Test.YtgbioeekdnglhaaWideT
import Derived.WalkSpells
import Derived.WalkLawsBesides
import Derived.Lib.Hide
import Derived.Handy
import Derived.OpenShut
namespace Go.Proofs.Ytgbioeekdnglhaa.W
open Go.RowKit
set_option linter.unusedVariables false
theorem u64_bounds {a : Int} (h : (Lit.int .u64 a).wf = true) : 0 ≤ a ∧ a < 18446744073709551616 := by
  have := bounds_u64 h; omega
set_option maxHeartbeats 400000 in
theorem shown_any (w : World) : Calls Try.prog 23 #[] w fun e w' => e = .returned (.bool true) ∧ Below w.heap.size w w' := by
  have m1 : mulH 6 7 = 0 := by decide
  have m2 : mulL 6 7 = 42 := by decide
  have M1 := Lib.hid m1
  have M2 := Lib.hid m2
  clear m1 m2
  have l8 : Hid (logI 8 = 3) := logI_of 8 (by decide) 4 (by decide) (fun j h => by
    have : j = 3 := by omega
    subst this
    decide)
  go_enter Try.func23, Try.ntmps23
  go_wp2_with fail
  refine (mul_any 6 7 (by decide) (by decide) (by decide) (by decide) _).mono ?_
  rintro e w1 ⟨rfl, hb1⟩
  rw [M1.out, M2.out]
  go_wp2_with fail
  refine (div_yes 0 43 6 (by decide) (by decide) (by decide) (by decide) (by decide) _).mono ?_
  rintro e w2 ⟨rfl, hb2⟩
  rw [show ((0 : Int) * 18446744073709551616 + 43) / 6 = 7 from by decide, show ((0 : Int) * 18446744073709551616 + 43) % 6 = 1 from by decide]
  go_wp2_with fail
  refine (log_any 8 (by decide) (by decide) _).mono ?_
  rintro e w3 ⟨rfl, rfl⟩
  rw [l8.out]
  go_wp2_with fail
  go_ret
  exact ⟨rfl, hb1.trans (hb2.mono hb1.size)⟩
end Go.Proofs.Ytgbioeekdnglhaa.W
