/- What the laws of layer 3 open: floating-point numbers and rows of them among the arguments. -/
import Derived.Test.YtodlmdbgkopdnaaFyE
import Derived.OpenShut
import Derived.ChangeSlices
namespace Go.Proofs.Ytodlmdbgkopdnaa.W
open Go.RowKit Go.ChangeShapes Go.WideShapes
set_option linter.unusedVariables false
set_option linter.unusedSimpArgs false
theorem f64_bounds {b : Nat} (h : (Lit.float .f64 b).wf = true) : b < 18446744073709551616 := by
  simp [Lit.wf] at h; omega
section
variable {H : Type} {enc : TypeId × Value → H} {P : Program} {w : World} {base : Nat} {spare : Nat → Bool} {held : Bool}
theorem trod_float {k : FloatKind} {t : TypeId} {fuel : Nat} {cs : List Value} {x : DataW H × List MemPlace} (ht : P.underlying t = some (.float k)) (h : DataW.trod enc P w base spare held fuel t cs = some x) : ∃ n, cs = [.float k n] ∧ x = (.lit (.float k n), []) ∧ (Lit.float k n).wf = true := by
  cases fuel with
  | zero => simp [DataW.trod] at h
  | succ n =>
    unfold DataW.trod at h
    rw [ht] at h
    split at h <;> simp_all
/-- A row of floating-point numbers that came in. -/
def IsFloats (w : World) (a : Option Addr) (len : Nat) (zs : List Nat) : Prop :=
  zs.length = len ∧ len ≤ maxLen ∧ (∀ b ∈ zs, b < 18446744073709551616) ∧ (zs = [] ∨ ∃ b off, a = some ⟨b, off, none⟩ ∧ b < w.heap.size ∧ ∀ k, k < zs.length → w.cell? ⟨b, off + k, none⟩ = some (.float .f64 (zs.getD k 0)))
theorem open_floats {t e : TypeId} {fuel : Nat} {a : Option Addr} {len cap : Nat} {x : DataW H × List MemPlace} (ht : P.underlying t = some (.slice e)) (he : P.underlying e = some (.float .f64)) (hc : P.cellsOf e = 1)
    (h : DataW.trod enc P w base spare held fuel t (Value.cells (.slice a len cap)).toList = some x) : ∃ zs, IsFloats w a len zs := by
  rcases DataW.trod_slice ht h with ⟨hcs, _⟩ | ⟨b, l, c, elems, rest, n, _, hcs, _, hb, hl, hm, hlen, hel, _, _⟩
  · simp [Value.cells] at hcs
    obtain ⟨rfl, rfl, rfl⟩ := hcs
    exact ⟨[], rfl, Nat.zero_le _, by simp, .inl rfl⟩
  · simp [Value.cells] at hcs
    obtain ⟨rfl, rfl, rfl⟩ := hcs
    have each : ∀ i, i < len → ∃ z, w.cell? (b.add i) = some (.float .f64 z) ∧ z < 18446744073709551616 := by
      intro i hi
      have hb' := hel i hi
      rw [List.getElem?_eq_getElem (by omega), hc, Nat.mul_one, Option.bind_eq_some_iff] at hb'
      obtain ⟨cs', hcs, hy'⟩ := hb'
      obtain ⟨z, rfl, _, hw⟩ := trod_float he hy'
      exact ⟨z, cell_of_cells?_one hcs, f64_bounds hw⟩
    have each2 : ∀ i, ∃ z, i < len → w.cell? (b.add i) = some (.float .f64 z) ∧ z < 18446744073709551616 := by
      intro i
      by_cases hi : i < len
      · obtain ⟨z, hz⟩ := each i hi; exact ⟨z, fun _ => hz⟩
      · exact ⟨0, fun k => absurd k hi⟩
    obtain ⟨g, hg⟩ := Classical.axiomOfChoice each2
    refine ⟨(List.range len).map g, by simp, by omega, ?_, ?_⟩
    · intro y hy
      obtain ⟨i, hi, rfl⟩ := List.mem_map.1 hy
      exact (hg i (List.mem_range.1 hi)).2
    · by_cases h0 : len = 0
      · subst h0; exact .inl rfl
      · have c0 := (hg 0 (by omega)).1
        obtain ⟨bb, off, spot⟩ := b
        have hs : spot = none := by simpa [Addr.add] using World.cell?_spot c0
        subst hs
        refine .inr ⟨bb, off, rfl, by simpa [Addr.add] using World.block_lt_of_cell? w _ c0, fun k hk => ?_⟩
        have hk2 : k < len := by simpa using hk
        have ck := (hg k hk2).1
        have e1 : (Addr.mk bb off none).add k = ⟨bb, off + k, none⟩ := by
          by_cases hk0 : k = 0
          · subst hk0; simp [Addr.add]
          · simp [Addr.add, hk0]
        rw [e1] at ck
        rw [ck, List.getD_eq_getElem?_getD, List.getElem?_map, List.getElem?_range hk2]
        rfl
end
theorem IsFloats.below {w w' : World} {A : Option Addr} {n : Nat} {z : List Nat} (h : IsFloats w A n z) {B : Nat} (hB : w.heap.size ≤ B) (hb : Below B w w') : IsFloats w' A n z := by
  obtain ⟨h1, h2, h3, h⟩ := h
  refine ⟨h1, h2, h3, ?_⟩
  rcases h with h | ⟨b, off, e, hlt, hc⟩
  · exact .inl h
  · exact .inr ⟨b, off, e, Nat.lt_of_lt_of_le hlt hb.size, fun k hk => by rw [hb.cell (by show b < B; omega)]; exact hc k hk⟩
end Go.Proofs.Ytodlmdbgkopdnaa.W
