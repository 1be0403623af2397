/- Layer 11's own code, walked: exponents held, one more of them, what is due, how many were answered. -/
import Derived.Test.YtekdablolacgfaaRcA
import Derived.Test.YtekdablolacgfaaStK
import Derived.Test.YtekdablolacgfaaStF
import Derived.Test.YtekdablolacgfaaStH
import Derived.Test.YtekdablolacgfaaRowS
import Derived.Test.YtekdablolacgfaaFixB
import Derived.Test.YtekdablolacgfaaFixD
import Derived.Test.YtekdablolacgfaaQtB
import Derived.Test.YtekdablolacgfaaChecked
import Derived.WalkKit
import Derived.WalkSpells
import Derived.Lib.Hide
import Derived.Handy
import Derived.Laws.CopyOwn
import Derived.Laws.AppendOwn
import Derived.Deep.DeepCutAuto
namespace Go.Proofs.Ytekdablolacgfaa.W
open Go.RowKit Go.Sort
set_option linter.unusedVariables false
set_option linter.unusedSimpArgs false
theorem run_maxI (a b m : Int) (h : max a b = m) (ts : Array TypeId) (t : TypeId) (w : World) : (Builtin.max_ ts t #[.int .i64 a, .int .i64 b]).run Try.prog w = .ok (.int .i64 m) w := by
  subst h
  rcases Int.lt_trichotomy a b with h | rfl | h
  · simp [Builtin.max_, Builtin.max2, show max a b = b by omega, h, show ¬ b < a by omega]
  · simp [Builtin.max_, Builtin.max2]
  · simp [Builtin.max_, Builtin.max2, show max a b = a by omega, h, show ¬ a < b by omega]
abbrev pmC (p : Pm) : Array Value := #[.int .i64 p.step, .int .i64 p.watch, .int .i64 p.panic, .int .i64 p.maxrate, .int .i64 p.phi, .int .i64 p.maxdist, .int .i64 p.gate, .int .i64 p.minpoll, .int .i64 p.maxpoll, .int .i64 p.burst, .int .i64 p.minsane, .int .i64 p.minleft]
end Go.Proofs.Ytekdablolacgfaa.W
