/- Layer 10's own code, walked: what is standard, at fault, called. -/
import Derived.Test.YtlidlmgmijndcaaGreatStN
import Derived.Test.YtlidlmgmijndcaaGreatStH
import Derived.Test.YtlidlmgmijndcaaGreatRowS
import Derived.Handy
import Derived.Laws.AppendOwn
namespace Go.Proofs.YtlidlmgmijndcaaGreat.W
open Go.RowKit Go.Sort
set_option linter.unusedVariables false
set_option linter.unusedSimpArgs false
set_option maxRecDepth 100000 in
set_option maxHeartbeats 3200000 in
theorem gstd_any (w : World) : Calls Tryz.prog 17 #[] w fun e w' => e = .returned stdC.val ∧ Below w.heap.size w w' := by
  go_enter Tryz.func17, Tryz.ntmps17
  go_wp2_with fail
  exact bodyPost_ret (v := stdC.val) (by simp [results, Tryz.results17, go_sem, stdC, Cf.val]) rfl ⟨rfl, by repeat' (first | (with_reducible exact Below.refl _ _) | (with_reducible assumption) | (with_reducible refine below_drewN ?_ _) | (with_reducible refine Below.drew ?_) | (with_reducible refine Below.setCell ?_ ?_ _) | (with_reducible refine Below.alloc ?_ ?_ _) | (simp; done) | (simp; omega) | omega)⟩
theorem row_cellN {w : World} {b b1 b8 i : Nat} (h : w.heap[b]? = some (.cells (rowV b1 b8).toArray 70 (0, 0))) : w.cell? ⟨b, i, none⟩ = (rowV b1 b8)[i]? := by simp [World.cell?, h]
/-- A configuration in its block, the fields in theirs. -/
structure FldIn (c : Cf) (x b b1 b8 : Nat) (w : World) : Prop where
  cf : w.heap[x]? = some (.cells (cfCells c) 52 (0, 0))
  row : w.heap[b]? = some (.cells (rowV b1 b8).toArray 70 (0, 0))
  step : w.heap[b1]? = some (.cells stepC 89 (0, 0))
  min : w.heap[b8]? = some (.cells minC 95 (0, 0))
theorem FldIn.kept {c : Cf} {x b b1 b8 : Nat} {w w' : World} (h : FldIn c x b b1 b8 w) (hk : ∀ k, k < w.heap.size → k = x ∨ k = b ∨ k = b1 ∨ k = b8 → w'.heap[k]? = w.heap[k]?) : FldIn c x b b1 b8 w' :=
  ⟨(hk _ (Array.getElem?_eq_some_iff.1 h.cf).1 (.inl rfl)).trans h.cf, (hk _ (Array.getElem?_eq_some_iff.1 h.row).1 (.inr (.inl rfl))).trans h.row, (hk _ (Array.getElem?_eq_some_iff.1 h.step).1 (.inr (.inr (.inl rfl)))).trans h.step, (hk _ (Array.getElem?_eq_some_iff.1 h.min).1 (.inr (.inr (.inr rfl)))).trans h.min⟩
theorem FldIn.below {c : Cf} {x b b1 b8 : Nat} {w w' : World} (h : FldIn c x b b1 b8 w) (hb : Below w.heap.size w w') : FldIn c x b b1 b8 w' := h.kept fun k hk _ => hb.block k hk
end Go.Proofs.YtlidlmgmijndcaaGreat.W
