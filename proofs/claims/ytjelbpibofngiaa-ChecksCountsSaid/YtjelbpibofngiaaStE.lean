/- The document's own answers of layer 10, walked: all faults. -/
import Derived.Test.YtjelbpibofngiaaStD
import Derived.Test.YtjelbpibofngiaaRowS
import Derived.Laws.AppendOwn
namespace Go.Proofs.Ytjelbpibofngiaa.W
open Go.RowKit Go.Sort
set_option linter.unusedVariables false
set_option linter.unusedSimpArgs false
/-- The faults among the first n fields. -/
def upTo (c : Cf) (n : Nat) : List Int := ((List.range' 1 n).filter fun k => decide (fieldE c k ≠ 0)).map fun k : Nat => (k : Int)
theorem upTo_next (c : Cf) (n : Nat) : upTo c (n + 1) = if fieldE c (n + 1) = 0 then upTo c n else upTo c n ++ [((n : Int) + 1)] := by
  unfold upTo
  rw [List.range'_concat, List.filter_append, List.map_append]
  by_cases h : fieldE c (n + 1) = 0
  · rw [if_pos h]
    simp [h, Nat.add_comm 1 n]
  · rw [if_neg h]
    simp [h, Nat.add_comm 1 n]
end Go.Proofs.Ytjelbpibofngiaa.W
