/- Two rows that lie apart; rows of bools. No program in it. -/
import Derived.Test.YtekdablolacgfaaSlA
import Derived.OwnWalk
import Derived.Laws.AppendOwn
import Derived.Laws.AppendOwnNone
namespace Go.Proofs.Ytekdablolacgfaa.W
open Go.RowKit Go.Sort
set_option linter.unusedVariables false
/-- Their own blocks differ. -/
def Apa (u v : Value) : Prop := ∀ b, u.ownBlock = some b → v.ownBlock = some b → False
theorem apart_ne {u v : Value} (h : Apa u v) : v.ownBlock = none ∨ v.ownBlock ≠ u.ownBlock := by
  cases hv : v.ownBlock with
  | none => exact .inl rfl
  | some b => exact .inr fun e => h b e.symm hv
theorem apart_symm {u v : Value} (h : Apa u v) : Apa v u := fun b h1 h2 => h b h2 h1
theorem apart_left {u v u' : Value} {n H : Nat} (h : Apa u v) (ha : u'.ownBlock = u.ownBlock ∨ u'.ownBlock = some n) (hn : n = H) (hv : ∀ b, v.ownBlock = some b → b < H) : Apa u' v := fun b h1 h2 => by
  rcases ha with ha | ha
  · exact h b (ha.symm.trans h1) h2
  · have e : n = b := Option.some.inj (ha.symm.trans h1)
    have := hv b h2
    omega
theorem apart_new {u v : Value} {g n H cp : Nat} (h : Apa u v) (ha : u.ownBlock = some g ∨ g = H) (hv : ∀ b, v.ownBlock = some b → b < H) : Apa (.slice (some ⟨g, 0, none⟩) n cp) v := fun b h1 h2 => by
  have e : g = b := Option.some.inj h1
  rcases ha with ha | ha
  · exact h b (ha.trans (congrArg some e)) h2
  · have := hv b h2
    omega
end Go.Proofs.Ytekdablolacgfaa.W
