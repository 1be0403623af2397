/- Layer 12's laws: what is standard; settings and askings that came in, opened; that an answer is one. -/
import Derived.Test.YtkjecjehphgpjaaGreatRcA
import Derived.Test.YtkjecjehphgpjaaGreatFixD
import Derived.Test.YtkjecjehphgpjaaGreatHdZ
import Derived.Test.YtkjecjehphgpjaaGreatStX
import Derived.Test.YtkjecjehphgpjaaGreatFixB
import Derived.Test.YtkjecjehphgpjaaGreatQtB
import Derived.Test.YtkjecjehphgpjaaGreatChecked
import Derived.Test.YtkjecjehphgpjaaGreatRows
import Derived.Test.YtkjecjehphgpjaaGreatWdefs
import Derived.Test.YtkjecjehphgpjaaGreatHeA
import Derived.Test.YtkjecjehphgpjaaGreatStY
import Derived.ChangeArms
import Derived.OpenShut
import Derived.ChangeOld
import Derived.Handy
import Derived.WalkKit
import Derived.Lib.Hide
import Derived.Maps.OwnSet
import Derived.Maps.OwnOps
import Derived.WalkSpells
import Derived.Lib.QuietBelow
import Derived.BigQuiet
import Derived.Laws.CopyRow
import Derived.WalkLawsBesides
import Derived.Lib.Zigzag
import Derived.OwnWalk
namespace Go.Proofs.YtkjecjehphgpjaaGreat.W
open Go.RowKit Go.Sort Go.ChangeShapes Go.WideShapes
set_option linter.unusedVariables false
set_option linter.unusedSimpArgs false
theorem num15 : ofV 4609434218613702656 = 6442450944 := by
  obtain ⟨k, hk⟩ : ∃ k, 1022 = k := ⟨_, rfl⟩
  rw [ofV_big (k := k) (c := 6755399441055744) (d := 52) (by omega) (by decide) (by decide) (by decide) (by omega)]
  decide
theorem std_dist : (chkP stdC).maxdist = 6442450944 := by
  unfold chkP
  rw [std_none, if_pos rfl]
  have e : ∀ c : Cf, (setP c).maxdist = ofV c.maxdist := fun c => by
    unfold setP
    simp only []
  rw [e]
  exact num15
set_option maxRecDepth 100000 in
theorem open_pm {H : Type} {enc : TypeId × Value → H} {w : World} {base : Nat} {spare : Nat → Bool} {held : Bool} {r : Reach} {b0 : Nat} {v : Value} {d : DataW H} {p : List MemPlace}
    (hv : Value.okWide Tryz.prog w r b0 23 v) (h : DataW.Trod enc Tryz.prog w base spare held 23 v d p) : ∃ h : Pm, v = h.val ∧ h.Typed := by
  obtain ⟨zs, hl, rfl, hw⟩ := open_int_fields [.i64, .i64, .i64, .i64, .i64, .i64, .i64, .i64, .i64, .i64, .i64, .i64] Tryz.underlying23 (by kernel_rfl) (by kernel_rfl) rfl (by
    intro i f hf
    match i, hf with
    | 0, hf => simp at hf; subst hf; exact ⟨.i64, rfl, Tryz.underlying2⟩
    | 1, hf => simp at hf; subst hf; exact ⟨.i64, rfl, Tryz.underlying2⟩
    | 2, hf => simp at hf; subst hf; exact ⟨.i64, rfl, Tryz.underlying2⟩
    | 3, hf => simp at hf; subst hf; exact ⟨.i64, rfl, Tryz.underlying2⟩
    | 4, hf => simp at hf; subst hf; exact ⟨.i64, rfl, Tryz.underlying2⟩
    | 5, hf => simp at hf; subst hf; exact ⟨.i64, rfl, Tryz.underlying2⟩
    | 6, hf => simp at hf; subst hf; exact ⟨.i64, rfl, Tryz.underlying2⟩
    | 7, hf => simp at hf; subst hf; exact ⟨.i64, rfl, Tryz.underlying3⟩
    | 8, hf => simp at hf; subst hf; exact ⟨.i64, rfl, Tryz.underlying3⟩
    | 9, hf => simp at hf; subst hf; exact ⟨.i64, rfl, Tryz.underlying3⟩
    | 10, hf => simp at hf; subst hf; exact ⟨.i64, rfl, Tryz.underlying3⟩
    | 11, hf => simp at hf; subst hf; exact ⟨.i64, rfl, Tryz.underlying3⟩
    | n + 12, hf => simp at hf) hv h
  match zs, hl with
  | [step, watch, panic, maxrate, phi, maxdist, gate, minpoll, maxpoll, burst, minsane, minleft], _ =>
    refine ⟨⟨step, watch, panic, maxrate, phi, maxdist, gate, minpoll, maxpoll, burst, minsane, minleft⟩, rfl, ?_⟩
    constructor
    · have := bounds_i64 (hw 0 _ _ rfl rfl)
      dsimp only
      omega
    · have := bounds_i64 (hw 1 _ _ rfl rfl)
      dsimp only
      omega
    · have := bounds_i64 (hw 2 _ _ rfl rfl)
      dsimp only
      omega
    · have := bounds_i64 (hw 3 _ _ rfl rfl)
      dsimp only
      omega
    · have := bounds_i64 (hw 4 _ _ rfl rfl)
      dsimp only
      omega
    · have := bounds_i64 (hw 5 _ _ rfl rfl)
      dsimp only
      omega
    · have := bounds_i64 (hw 6 _ _ rfl rfl)
      dsimp only
      omega
    · have := bounds_i64 (hw 7 _ _ rfl rfl)
      dsimp only
      omega
    · have := bounds_i64 (hw 8 _ _ rfl rfl)
      dsimp only
      omega
    · have := bounds_i64 (hw 9 _ _ rfl rfl)
      dsimp only
      omega
    · have := bounds_i64 (hw 10 _ _ rfl rfl)
      dsimp only
      omega
    · have := bounds_i64 (hw 11 _ _ rfl rfl)
      dsimp only
      omega
end Go.Proofs.YtkjecjehphgpjaaGreat.W
