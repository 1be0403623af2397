/- Layer 10: that what is standard may be; a configuration that came in, opened. -/
import Derived.Test.YtlidlmgmijndcaaGreatStX
import Derived.Test.YtlidlmgmijndcaaGreatFyD
import Derived.Test.YtlidlmgmijndcaaGreatFixD
import Derived.Test.YtlidlmgmijndcaaGreatWideA
import Derived.ChangeArms
import Derived.OpenShut
import Derived.ChangeOld
import Derived.Lib.Hide
import Derived.OneCell
import Derived.Lib.Zigzag
namespace Go.Proofs.YtlidlmgmijndcaaGreat.W
open Go.RowKit Go.Sort Go.ChangeShapes Go.WideShapes
set_option linter.unusedVariables false
set_option linter.unusedSimpArgs false
@[go_sem] theorem run_store_float (P : Program) (w : World) (a : Addr) (k : FloatKind) (b : Nat) (m : Mode) : (store a (.float k b) m).run P w = stored P w a (.float k b) m := run_store P w a _ m rfl
theorem std_typed : stdC.Typed := by
  refine ⟨?_, ?_, ?_, ?_, ?_, ?_, ?_, ⟨?_, ?_⟩, ⟨?_, ?_⟩, ⟨?_, ?_⟩, ⟨?_, ?_⟩, ⟨?_, ?_⟩⟩ <;> decide
end Go.Proofs.YtlidlmgmijndcaaGreat.W
