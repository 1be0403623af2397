/- The document's own answers of layer 10, walked: what is checked. -/
import Derived.Test.YtekdablolacgfaaFpA
import Derived.Test.YtekdablolacgfaaRows
import Derived.Test.YtekdablolacgfaaChecked
import Derived.Test.YtekdablolacgfaaWdefs
import Derived.Test.YtekdablolacgfaaSlA
import Derived.Test.YtekdablolacgfaaRowS
import Derived.Test.YtekdablolacgfaaQtB
import Derived.Laws.AppendOwn
import Derived.Deep.DeepCutAuto
import Derived.Lib.Hide
import Derived.Lib.QuietBelow
import Derived.WalkKit
import Derived.WalkSpells
import Derived.WalkLawsBesides
import Derived.Laws.Externs
import Derived.Lib.Zigzag
import Derived.BigQuiet
import Derived.Deep.QuietTactic
import Derived.Below
namespace Go.Proofs.Ytekdablolacgfaa.W
open Go.RowKit Go.Sort
set_option linter.unusedVariables false
set_option linter.unusedSimpArgs false
/-- What was set. -/
structure Pm where
  step : Int
  watch : Int
  panic : Int
  maxrate : Int
  phi : Int
  maxdist : Int
  gate : Int
  minpoll : Int
  maxpoll : Int
  burst : Int
  minsane : Int
  minleft : Int
def Pm.val (p : Pm) : Value := .agg #[.int .i64 p.step, .int .i64 p.watch, .int .i64 p.panic, .int .i64 p.maxrate, .int .i64 p.phi, .int .i64 p.maxdist, .int .i64 p.gate, .int .i64 p.minpoll, .int .i64 p.maxpoll, .int .i64 p.burst, .int .i64 p.minsane, .int .i64 p.minleft]
end Go.Proofs.Ytekdablolacgfaa.W
