/- The document's own questions and references, walked. -/
import Derived.Test.YtjelbpibofngiaaHdC
import Derived.Test.YtjelbpibofngiaaHdI
namespace Go.Proofs.Ytjelbpibofngiaa.W
open Go.RowKit Go.Sort
set_option linter.unusedVariables false
set_option linter.unusedSimpArgs false
/-- The first four bytes, or as many and noughts. -/
def refL (l : List UInt8) : List UInt8 := (l ++ [0, 0, 0, 0]).take 4
theorem refL_length (l : List UInt8) : (refL l).length = 4 := by
  unfold refL; rw [List.length_take, List.length_append]; simp
end Go.Proofs.Ytjelbpibofngiaa.W
