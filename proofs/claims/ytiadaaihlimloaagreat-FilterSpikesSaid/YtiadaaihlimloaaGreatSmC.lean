/- Layer 13's own code, walked: gaps of four times, sums of two and of three terms, their mean, whether one goes back. -/
import Derived.Test.YtiadaaihlimloaaGreatSmA
import Derived.Test.YtiadaaihlimloaaGreatRcA
import Derived.Test.YtiadaaihlimloaaGreatFixD
import Derived.Test.YtiadaaihlimloaaGreatHdZ
import Derived.Test.YtiadaaihlimloaaGreatCkD
import Derived.Test.YtiadaaihlimloaaGreatRows
import Derived.Test.YtiadaaihlimloaaGreatWdefs
import Derived.Test.YtiadaaihlimloaaGreatQtB
import Derived.Test.YtiadaaihlimloaaGreatChecked
import Derived.Test.YtiadaaihlimloaaGreatFixB
import Derived.Test.YtiadaaihlimloaaGreatFixC
import Derived.Test.YtiadaaihlimloaaGreatFixH
import Derived.WalkKit
import Derived.WalkSpells
import Derived.Lib.Hide
import Derived.Lib.QuietBelow
import Derived.Handy
import Derived.BigQuiet
import Derived.Maps.OwnSet
import Derived.Maps.OwnOps
import Derived.Laws.CopyRow
import Derived.WalkLawsBesides
import Derived.Lib.Zigzag
import Derived.OwnWalk
namespace Go.Proofs.YtiadaaihlimloaaGreat.W
open Go.RowKit Go.Sort
set_option linter.unusedVariables false
set_option linter.unusedSimpArgs false
set_option maxHeartbeats 1600000 in
theorem ssum1 (a t : Int) (b cap : Nat) (n0 : -9223372036854775808 ≤ a) (n1 : a ≤ 9223372036854775807) (t0 : -9223372036854775808 ≤ t) (t1 : t ≤ 9223372036854775807) (w : World) (hc : w.cell? ⟨b, 0, none⟩ = some (.int .i64 t)) :
    Calls Tryz.prog 68 #[.int .i64 a, .slice (some ⟨b, 0, none⟩) 1 cap] w fun e w' => e = .returned (.int .i64 (addI a t)) ∧ w = w' := by
  have c := add_any a t n0 n1 t0 t1
  generalize addI a t = r at *
  go_enter Tryz.func68, Tryz.ntmps68
  go_wp2_with fail
  refine wp_loop_rounds 2 ?_
  rw [rounds_succ]
  go_wp2_with fail
  (with_reducible refine (c _).mono ?_)
  rintro e w1 ⟨rfl, rfl⟩
  go_wp2_with fail
  rw [rounds_succ]
  go_wp2_with fail
  go_ret
  exact ⟨rfl, rfl⟩
end Go.Proofs.YtiadaaihlimloaaGreat.W
