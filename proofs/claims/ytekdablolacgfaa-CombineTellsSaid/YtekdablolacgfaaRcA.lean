/- Layer 11 as numbers: when a server is asked, and whether it answers. No program in it. -/
import Derived.Test.YtekdablolacgfaaFdefs
import Derived.Test.YtekdablolacgfaaFpA
import Derived.Test.YtekdablolacgfaaRows
import Derived.Test.YtekdablolacgfaaChecked
import Derived.Test.YtekdablolacgfaaWdefs
import Derived.Test.YtekdablolacgfaaSlA
import Derived.Test.YtekdablolacgfaaRowS
import Derived.Test.YtekdablolacgfaaStF
import Derived.Laws.AppendOwn
import Derived.Deep.DeepCutAuto
import Derived.Lib.Hide
import Derived.Lib.QuietBelow
import Derived.WalkKit
import Derived.WalkSpells
import Derived.WalkLawsBesides
import Derived.Laws.Externs
import Derived.Lib.Zigzag
import Derived.BigQuiet
import Derived.Deep.QuietTactic
import Derived.Below
namespace Go.Proofs.Ytekdablolacgfaa.W
open Go.RowKit
set_option linter.unusedVariables false
structure Pm.Typed (p : Pm) : Prop where
  step : -9223372036854775808 ≤ p.step ∧ p.step ≤ 9223372036854775807
  watch : -9223372036854775808 ≤ p.watch ∧ p.watch ≤ 9223372036854775807
  panic : -9223372036854775808 ≤ p.panic ∧ p.panic ≤ 9223372036854775807
  maxrate : -9223372036854775808 ≤ p.maxrate ∧ p.maxrate ≤ 9223372036854775807
  phi : -9223372036854775808 ≤ p.phi ∧ p.phi ≤ 9223372036854775807
  maxdist : -9223372036854775808 ≤ p.maxdist ∧ p.maxdist ≤ 9223372036854775807
  gate : -9223372036854775808 ≤ p.gate ∧ p.gate ≤ 9223372036854775807
  minpoll : -9223372036854775808 ≤ p.minpoll ∧ p.minpoll ≤ 9223372036854775807
  maxpoll : -9223372036854775808 ≤ p.maxpoll ∧ p.maxpoll ≤ 9223372036854775807
  burst : -9223372036854775808 ≤ p.burst ∧ p.burst ≤ 9223372036854775807
  minsane : -9223372036854775808 ≤ p.minsane ∧ p.minsane ≤ 9223372036854775807
  minleft : -9223372036854775808 ≤ p.minleft ∧ p.minleft ≤ 9223372036854775807
end Go.Proofs.Ytekdablolacgfaa.W
