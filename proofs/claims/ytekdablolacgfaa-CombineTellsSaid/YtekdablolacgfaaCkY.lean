/- Layer 12's laws: what is standard; settings and askings that came in, opened; that an answer is one. -/
import Derived.Test.YtekdablolacgfaaRcA
import Derived.Test.YtekdablolacgfaaFixD
import Derived.Test.YtekdablolacgfaaHdZ
import Derived.Test.YtekdablolacgfaaStK
import Derived.Test.YtekdablolacgfaaStF
import Derived.Test.YtekdablolacgfaaFpA
import Derived.Test.YtekdablolacgfaaRows
import Derived.Test.YtekdablolacgfaaChecked
import Derived.Test.YtekdablolacgfaaWdefs
import Derived.Test.YtekdablolacgfaaSlA
import Derived.Test.YtekdablolacgfaaRowS
import Derived.Test.YtekdablolacgfaaFixB
import Derived.Test.YtekdablolacgfaaQtB
import Derived.Test.YtekdablolacgfaaFixZ
import Derived.ChangeArms
import Derived.OpenShut
import Derived.ChangeOld
import Derived.Handy
import Derived.WalkKit
import Derived.Lib.Hide
import Derived.Maps.OwnSet
import Derived.Maps.OwnOps
import Derived.WalkSpells
import Derived.Lib.QuietBelow
import Derived.BigQuiet
import Derived.Laws.CopyOwn
import Derived.Laws.AppendOwn
import Derived.Deep.DeepCutAuto
import Derived.WalkLawsBesides
import Derived.Laws.Externs
import Derived.Lib.Zigzag
import Derived.Deep.QuietTactic
import Derived.Below
import Derived.Laws.CopyRow
import Derived.OwnWalk
namespace Go.Proofs.Ytekdablolacgfaa.W
open Go.RowKit Go.Sort Go.ChangeShapes Go.WideShapes
set_option linter.unusedVariables false
set_option linter.unusedSimpArgs false
set_option maxRecDepth 100000 in
theorem open_pm {H : Type} {enc : TypeId × Value → H} {w : World} {base : Nat} {spare : Nat → Bool} {held : Bool} {r : Reach} {b0 : Nat} {v : Value} {d : DataW H} {p : List MemPlace}
    (hv : Value.okWide Try.prog w r b0 31 v) (h : DataW.Trod enc Try.prog w base spare held 31 v d p) : ∃ h : Pm, v = h.val ∧ h.Typed := by
  obtain ⟨zs, hl, rfl, hw⟩ := open_int_fields [.i64, .i64, .i64, .i64, .i64, .i64, .i64, .i64, .i64, .i64, .i64, .i64] Try.underlying31 (by kernel_rfl) (by kernel_rfl) rfl (by
    intro i f hf
    match i, hf with
    | 0, hf => simp at hf; subst hf; exact ⟨.i64, rfl, Try.underlying2⟩
    | 1, hf => simp at hf; subst hf; exact ⟨.i64, rfl, Try.underlying2⟩
    | 2, hf => simp at hf; subst hf; exact ⟨.i64, rfl, Try.underlying2⟩
    | 3, hf => simp at hf; subst hf; exact ⟨.i64, rfl, Try.underlying2⟩
    | 4, hf => simp at hf; subst hf; exact ⟨.i64, rfl, Try.underlying2⟩
    | 5, hf => simp at hf; subst hf; exact ⟨.i64, rfl, Try.underlying2⟩
    | 6, hf => simp at hf; subst hf; exact ⟨.i64, rfl, Try.underlying2⟩
    | 7, hf => simp at hf; subst hf; exact ⟨.i64, rfl, Try.underlying3⟩
    | 8, hf => simp at hf; subst hf; exact ⟨.i64, rfl, Try.underlying3⟩
    | 9, hf => simp at hf; subst hf; exact ⟨.i64, rfl, Try.underlying3⟩
    | 10, hf => simp at hf; subst hf; exact ⟨.i64, rfl, Try.underlying3⟩
    | 11, hf => simp at hf; subst hf; exact ⟨.i64, rfl, Try.underlying3⟩
    | n + 12, hf => simp at hf) hv h
  match zs, hl with
  | [step, watch, panic, maxrate, phi, maxdist, gate, minpoll, maxpoll, burst, minsane, minleft], _ =>
    refine ⟨⟨step, watch, panic, maxrate, phi, maxdist, gate, minpoll, maxpoll, burst, minsane, minleft⟩, rfl, ?_⟩
    constructor
    · have := bounds_i64 (hw 0 _ _ rfl rfl)
      dsimp only
      omega
    · have := bounds_i64 (hw 1 _ _ rfl rfl)
      dsimp only
      omega
    · have := bounds_i64 (hw 2 _ _ rfl rfl)
      dsimp only
      omega
    · have := bounds_i64 (hw 3 _ _ rfl rfl)
      dsimp only
      omega
    · have := bounds_i64 (hw 4 _ _ rfl rfl)
      dsimp only
      omega
    · have := bounds_i64 (hw 5 _ _ rfl rfl)
      dsimp only
      omega
    · have := bounds_i64 (hw 6 _ _ rfl rfl)
      dsimp only
      omega
    · have := bounds_i64 (hw 7 _ _ rfl rfl)
      dsimp only
      omega
    · have := bounds_i64 (hw 8 _ _ rfl rfl)
      dsimp only
      omega
    · have := bounds_i64 (hw 9 _ _ rfl rfl)
      dsimp only
      omega
    · have := bounds_i64 (hw 10 _ _ rfl rfl)
      dsimp only
      omega
    · have := bounds_i64 (hw 11 _ _ rfl rfl)
      dsimp only
      omega
end Go.Proofs.Ytekdablolacgfaa.W
