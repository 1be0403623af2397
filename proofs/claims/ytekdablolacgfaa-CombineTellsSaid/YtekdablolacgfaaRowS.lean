/- Rows of numbers that came in, as slices that are read; the bounds of small numbers. -/
import Derived.Test.YtekdablolacgfaaFixZ
import Derived.Test.YtekdablolacgfaaSlA
import Derived.OpenShut
import Derived.ChangeOld
namespace Go.Proofs.Ytekdablolacgfaa.W
open Go.RowKit Go.Sort Go.ChangeShapes Go.WideShapes
set_option linter.unusedVariables false
set_option linter.unusedSimpArgs false
def oneE (k : IntKind) (y : Int) : List Value := [.int k y]
theorem IsRow.sl {k : IntKind} {w : World} {a : Option Addr} {len cap : Nat} {zs : List Int} (h : IsRow k w a len cap zs) :
    ∃ z : List Int, z.length = len ∧ (∀ y ∈ z, (Lit.int k y).wf = true) ∧ SlAt (fun b => b < w.heap.size) 1 (oneE k) w (.slice a len cap) z := by
  rcases h with ⟨rfl, rfl, rfl, rfl⟩ | ⟨x, rfl, hl, hm, hz, hc, hw⟩
  · exact ⟨[], rfl, by simp, .inl ⟨none, 0, rfl, fun _ => rfl, rfl⟩⟩
  · refine ⟨zs.take len, by simp; omega, fun y hy => hw y (List.mem_of_mem_take hy), ?_⟩
    by_cases h0 : len = 0
    · subst h0
      exact .inl ⟨_, _, rfl, (fun h => by cases h), by simp⟩
    · have c0 := hc 0 (by omega)
      obtain ⟨b, off, spot⟩ := x
      have hs : spot = none := by simpa [Addr.add] using World.cell?_spot c0
      subst hs
      have hlen : (zs.take len).length = len := by simp; omega
      refine .inr ⟨b, off, cap, by rw [hlen], by simpa [Addr.add] using World.block_lt_of_cell? w _ c0, fun i y hy j u hu => ?_⟩
      have hi : i < len := by have := (List.getElem?_eq_some_iff.1 hy).1; omega
      have hj : j = 0 := by have := (List.getElem?_eq_some_iff.1 hu).1; simp [oneE] at this; exact this
      subst hj
      simp [oneE] at hu
      subst hu
      have ck := hc i (by omega)
      rw [Addr.add_lit] at ck
      rw [Nat.mul_one, Nat.add_zero, ck, List.getD_eq_getElem?_getD]
      rw [List.getElem?_take_of_lt hi] at hy
      rw [hy]
      rfl
theorem u32_bounds {a : Int} (h : (Lit.int .u32 a).wf = true) : 0 ≤ a ∧ a < 4294967296 := by have := bounds_u32 h; omega
end Go.Proofs.Ytekdablolacgfaa.W
