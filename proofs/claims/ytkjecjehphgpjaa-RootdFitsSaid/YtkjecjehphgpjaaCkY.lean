/- Layer 12's laws: what is standard; settings and askings that came in, opened; that an answer is one. -/
import Derived.Test.YtkjecjehphgpjaaRcA
import Derived.Test.YtkjecjehphgpjaaFixD
import Derived.Test.YtkjecjehphgpjaaHdZ
import Derived.Test.YtkjecjehphgpjaaEdA
import Derived.Test.YtkjecjehphgpjaaStX
import Derived.Test.YtkjecjehphgpjaaFixB
import Derived.Test.YtkjecjehphgpjaaQtB
import Derived.Test.YtkjecjehphgpjaaChecked
import Derived.Test.YtkjecjehphgpjaaRows
import Derived.Test.YtkjecjehphgpjaaWdefs
import Derived.Test.YtkjecjehphgpjaaStY
import Derived.ChangeArms
import Derived.OpenShut
import Derived.ChangeOld
import Derived.Handy
import Derived.WalkKit
import Derived.Lib.Hide
import Derived.Maps.OwnSet
import Derived.Maps.OwnOps
import Derived.WalkSpells
import Derived.Lib.QuietBelow
import Derived.BigQuiet
import Derived.Laws.CopyRow
import Derived.WalkLawsBesides
import Derived.Lib.Zigzag
import Derived.OwnWalk
import Derived.Deep.Fields
namespace Go.Proofs.Ytkjecjehphgpjaa.W
open Go.RowKit Go.Sort Go.ChangeShapes Go.WideShapes
set_option linter.unusedVariables false
set_option linter.unusedSimpArgs false
theorem num15 : ofV 4609434218613702656 = 6442450944 := by
  obtain ⟨k, hk⟩ : ∃ k, 1022 = k := ⟨_, rfl⟩
  rw [ofV_big (k := k) (c := 6755399441055744) (d := 52) (by omega) (by decide) (by decide) (by decide) (by omega)]
  decide
theorem std_dist : (chkP stdC).maxdist = 6442450944 := by
  unfold chkP
  rw [std_none, if_pos rfl]
  have e : ∀ c : Cf, (setP c).maxdist = ofV c.maxdist := fun c => by
    unfold setP
    simp only []
  rw [e]
  exact num15
end Go.Proofs.Ytkjecjehphgpjaa.W
