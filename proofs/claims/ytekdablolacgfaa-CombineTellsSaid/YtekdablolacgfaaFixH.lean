/- Means, walked: the closures that keep a mean open. -/
import Derived.Test.YtekdablolacgfaaFixD
import Derived.Test.YtekdablolacgfaaWideA
import Derived.OneCell
import Derived.Lib.Zigzag
import Derived.Lib.Hide
namespace Go.Proofs.Ytekdablolacgfaa.W
open Go.RowKit
set_option linter.unusedVariables false
set_option linter.unusedSimpArgs false
/-- A row of int64s that lies in memory; an empty one lies nowhere. -/
def Ints (w : World) (A : Option Addr) (z : List Int) : Prop :=
  z = [] ∨ ∃ b off, A = some ⟨b, off, none⟩ ∧ b < w.heap.size ∧ ∀ k, k < z.length → w.cell? ⟨b, off + k, none⟩ = some (.int .i64 (z.getD k 0))
def InR (z : List Int) : Prop := ∀ x ∈ z, -9223372036854775808 ≤ x ∧ x ≤ 9223372036854775807
theorem InR.at_ {z : List Int} (h : InR z) (k : Nat) (hk : k < z.length) : -9223372036854775808 ≤ z.getD k 0 ∧ z.getD k 0 ≤ 9223372036854775807 := by
  rw [List.getD_eq_getElem?_getD, List.getElem?_eq_getElem hk]
  exact h _ (List.getElem_mem hk)
theorem InR.sum {z : List Int} (h : InR z) : -9223372036854775808 * (z.length : Int) ≤ z.sum ∧ z.sum ≤ 9223372036854775807 * (z.length : Int) := by
  induction z with
  | nil => simp
  | cons x z ih =>
    obtain ⟨i1, i2⟩ := ih fun y hy => h y (List.mem_cons_of_mem _ hy)
    obtain ⟨j1, j2⟩ := h x List.mem_cons_self
    rw [List.sum_cons, List.length_cons]
    omega
theorem Ints.below {w w' : World} {A : Option Addr} {z : List Int} (h : Ints w A z) {B : Nat} (hB : w.heap.size ≤ B) (hb : Below B w w') : Ints w' A z := by
  rcases h with h | ⟨b, off, e, hlt, hc⟩
  · exact .inl h
  · exact .inr ⟨b, off, e, Nat.lt_of_lt_of_le hlt hb.size, fun k hk => by rw [hb.cell (by show b < B; omega)]; exact hc k hk⟩
end Go.Proofs.Ytekdablolacgfaa.W
