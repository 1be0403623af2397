/- Layer 14: a filter as one row. -/
import Derived.Test.YtkjecjehphgpjaaFrA
import Derived.Test.YtkjecjehphgpjaaBgA
import Derived.Test.YtkjecjehphgpjaaChecked
import Derived.ChangeOld
import Derived.Handy
import Derived.WalkKit
import Derived.BigQuiet
namespace Go.Proofs.Ytkjecjehphgpjaa.W
open Go.RowKit Go.Sort Go.WideShapes
set_option linter.unusedVariables false
set_option linter.unusedSimpArgs false
@[go_sem] theorem fl_size (f : Fl) : f.cells.size = 46 := rfl
set_option maxRecDepth 100000 in
@[go_sem] theorem fl_one (f : Fl) : f.cells.all (·.oneCell') = true := by simp [Fl.cells, Value.oneCell']
def Fl.zero : Fl := ⟨[], false, 0, 0, 0, 0⟩
section
variable {ops : Array Oper} {rest : List Oper} {o : Oper} {a : Act} {w : World} {Q : Exit → Act → World → Prop}
end
end Go.Proofs.Ytkjecjehphgpjaa.W
