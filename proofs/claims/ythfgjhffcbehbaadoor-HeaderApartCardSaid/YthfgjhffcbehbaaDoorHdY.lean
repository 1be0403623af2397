/- What the laws of layer 5 call besides: the small case that must go well. -/
import Derived.Test.YthfgjhffcbehbaaDoorHeE
import Derived.Test.YthfgjhffcbehbaaDoorHeG
import Derived.Test.YthfgjhffcbehbaaDoorHdZ
import Derived.Test.YthfgjhffcbehbaaDoorFixZ
import Derived.Test.YthfgjhffcbehbaaDoorWideZ
import Derived.Test.YthfgjhffcbehbaaDoorRows
import Derived.Test.YthfgjhffcbehbaaDoorWdefs
import Derived.OpenShut
import Derived.Lib.Hide
import Derived.WalkKit
import Derived.WalkSpells
import Derived.WalkLawsBesides
import Derived.Handy
import Derived.Laws.Bits64b
import Derived.IntWalk
import Derived.BigQuiet
import Derived.Deep.QuietTactic
import Derived.Deep.DeepCutAuto
import Derived.Deep.RegionWith
namespace Go.Proofs.YthfgjhffcbehbaaDoor.W
open Go.RowKit Go.Sort
set_option linter.unusedVariables false
set_option linter.unusedSimpArgs false
theorem Laid.alloc {w : World} (L : Laid w) (o : Obj) : Laid (w.alloc o) := L.kept (Below.alloc (Below.refl _ _) (Nat.le_refl _) _)
set_option maxHeartbeats 800000 in
theorem hshown_any (w : World) (HL : Laid w) : Calls Tryd.prog 12 #[] w fun e w' => e = .returned (.bool true) ∧ Below w.heap.size w w' := by
  have c := fun w (L : Laid w) => hask_any 4 6 1 (by decide) (by decide) (by decide) (by decide) (by decide) (by decide) w L
  have hm : (askH 4 6 1).may = true := by decide
  have e1 : (askH 4 6 1).encS = (askH 4 6 1).enc := by unfold Hd.encS; rw [if_pos hm]
  have e2 : (askH 4 6 1).encE = 0 := by unfold Hd.encE; rw [if_pos hm]
  rw [e1, e2] at c
  have hl := (askH 4 6 1).enc_length
  have hb : byteAt (askH 4 6 1).enc 0 = 35 := by decide
  clear e1 e2 hm
  generalize (askH 4 6 1).enc = L at *
  go_enter Tryd.func12, Tryd.ntmps12
  go_wp2_with fail
  (with_reducible refine (c _ (by first | (with_reducible exact HL) | (with_reducible exact HL.alloc _))).mono ?_)
  rintro e w1 ⟨rfl, hB⟩
  go_wp2_with fail
  go_ret
  exact ⟨rfl, hB⟩
theorem enc_yes {h : Hd} (m : h.may = true) : h.encS = h.enc ∧ h.encE = 0 := by
  unfold Hd.encS Hd.encE; rw [if_pos m, if_pos m]; exact ⟨rfl, rfl⟩
theorem enc_no {h : Hd} (m : h.may = false) : h.encS = [] ∧ h.encE = 1 := by
  unfold Hd.encS Hd.encE; rw [m]; exact ⟨rfl, rfl⟩
theorem dec_of_enc (h : Hd) (t : h.Typed) (f : h.Fit) (more : List UInt8) : decE (h.enc ++ more) = 0 ∧ decV (h.enc ++ more) = h ∧ decR (h.enc ++ more) = more := by
  have hd := dec_enc h t f more
  have hl := h.enc_length
  have e : decE (h.enc ++ more) = 0 := by
    unfold decE
    rw [if_neg (by rw [List.length_append]; omega), hd]
    have := f.ver
    exact if_neg (by omega)
  refine ⟨e, ?_, ?_⟩
  · unfold decV; rw [if_pos e, hd]
  · unfold decR; rw [if_pos e, List.drop_append_of_le_length (by omega), List.drop_of_length_le (by omega)]; rfl
end Go.Proofs.YthfgjhffcbehbaaDoor.W
