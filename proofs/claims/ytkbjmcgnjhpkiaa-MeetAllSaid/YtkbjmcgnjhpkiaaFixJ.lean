/- The document's own root of mean squares, walked: its list of squares grows by appends. -/
import Derived.Test.YtkbjmcgnjhpkiaaFixH
import Derived.Test.YtkbjmcgnjhpkiaaRows
import Derived.Test.YtkbjmcgnjhpkiaaWdefs
import Derived.Deep.RegionHeld3
import Derived.Deep.AppendLies
import Derived.OwnWalk
import Derived.Laws.Pointers
import Derived.WalkKit
import Derived.WalkSpells
import Derived.WalkLawsBesides
import Derived.Lib.Hide
import Derived.Handy
import Derived.Laws.Bits64b
import Derived.IntWalk
import Derived.BigQuiet
import Derived.Deep.QuietTactic
import Derived.Deep.DeepCutAuto
import Derived.Deep.RegionWith
namespace Go.Proofs.Ytkbjmcgnjhpkiaa.W
open Go.RowKit
set_option linter.unusedVariables false
set_option linter.unusedSimpArgs false
theorem own_apart {w : World} {base b : Nat} {e : TypeId} {size n : Nat} {v : Value} {xs : List Value} (h : w.ownsRow base e size v n xs) (hb : b < base) : v.ownBlock ≠ some b := by
  rcases h.2 with ⟨rfl, _⟩ | ⟨g, c, cur, rfl, hg, _⟩
  · simp [Value.ownBlock]
  · simp only [Value.ownBlock, ne_eq, Option.some.injEq]; omega
theorem Ints.own {w : World} {base e : Nat} {v : Value} {n : Nat} {z : List Int} (h : w.ownsRow base e 1 v n (z.map (Value.int .i64))) (hn : n = z.length) :
    ∃ A c, v = .slice A z.length c ∧ Ints w A z := by
  subst hn
  rcases h.2 with ⟨rfl, h0⟩ | ⟨g, c, cur, rfl, hg, hh, h1, h2, h3, h4⟩
  · exact ⟨none, 0, by rw [h0], .inl (List.eq_nil_of_length_eq_zero h0)⟩
  · refine ⟨_, c, rfl, .inr ⟨g, 0, rfl, lt_of_block hh, fun k hk => ?_⟩⟩
    have : cur.toList[k]? = some (.int .i64 (z.getD k 0)) := by
      have e1 : (cur.toList.take (z.length * 1))[k]? = cur.toList[k]? := List.getElem?_take_of_lt (by omega)
      rw [← e1, h4, List.getElem?_map, List.getElem?_eq_getElem hk, List.getD_eq_getElem?_getD, List.getElem?_eq_getElem hk]; rfl
    simp only [World.cell?, hh, Nat.zero_add]
    simpa using this
end Go.Proofs.Ytkbjmcgnjhpkiaa.W
