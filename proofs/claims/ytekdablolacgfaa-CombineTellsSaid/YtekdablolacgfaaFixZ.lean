/- What the laws of layer 2 call besides: the small case that must go well; bounds of arguments. -/
import Derived.Test.YtekdablolacgfaaFixD
import Derived.Test.YtekdablolacgfaaFixH
import Derived.OpenShut
import Derived.Lib.Hide
namespace Go.Proofs.Ytekdablolacgfaa.W
open Go.RowKit
set_option linter.unusedVariables false
set_option linter.unusedSimpArgs false
theorem i64_bounds {a : Int} (h : (Lit.int .i64 a).wf = true) : -9223372036854775808 ≤ a ∧ a ≤ 9223372036854775807 := by
  have := bounds_i64 h; omega
/-- What a law is told of a slice of integers that came in. -/
def IsRow (k : IntKind) (w : World) (a : Option Addr) (len cap : Nat) (zs : List Int) : Prop :=
  (a = none ∧ len = 0 ∧ cap = 0 ∧ zs = []) ∨
  ∃ x, a = some x ∧ len ≤ cap ∧ cap ≤ maxLen ∧ zs.length = cap ∧ (∀ i, i < zs.length → w.cell? (x.add i) = some (.int k (zs.getD i 0))) ∧ ∀ n ∈ zs, (Lit.int k n).wf = true
theorem IsRow.ints {w : World} {a : Option Addr} {len cap : Nat} {zs : List Int} (h : IsRow .i64 w a len cap zs) : ∃ z : List Int, z.length = len ∧ InR z ∧ Ints w a z := by
  rcases h with ⟨rfl, rfl, rfl, rfl⟩ | ⟨x, rfl, hl, hm, hz, hc, hw⟩
  · exact ⟨[], rfl, by simp [InR], .inl rfl⟩
  · refine ⟨zs.take len, by simp; omega, fun y hy => i64_bounds (hw y (List.mem_of_mem_take hy)), ?_⟩
    by_cases h0 : len = 0
    · subst h0; exact .inl (by simp)
    · have c0 := hc 0 (by omega)
      obtain ⟨b, off, spot⟩ := x
      have hs : spot = none := by simpa [Addr.add] using World.cell?_spot c0
      subst hs
      refine .inr ⟨b, off, rfl, by simpa [Addr.add] using World.block_lt_of_cell? w _ c0, fun k hk => ?_⟩
      have hk2 : k < len := by simp at hk; omega
      have ck := hc k (by omega)
      have e1 : (Addr.mk b off none).add k = ⟨b, off + k, none⟩ := by
        by_cases hk0 : k = 0
        · subst hk0; simp [Addr.add]
        · simp [Addr.add, hk0]
      rw [e1] at ck
      rw [ck, List.getD_eq_getElem?_getD, List.getD_eq_getElem?_getD, List.getElem?_take_of_lt hk2]
end Go.Proofs.Ytekdablolacgfaa.W
