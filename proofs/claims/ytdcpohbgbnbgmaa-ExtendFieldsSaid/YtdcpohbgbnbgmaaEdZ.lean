/- A slice of fields that came in as an argument, opened. -/
import Derived.Test.YtdcpohbgbnbgmaaEdC
import Derived.Deep.SlicePairs
import Derived.OpenShut
import Derived.ChangeOld
import Derived.WalkKit
namespace Go.Proofs.Ytdcpohbgbnbgmaa.W
open Go.RowKit Go.ChangeShapes Go.WideShapes
set_option linter.unusedVariables false
def strOf : Value → List UInt8 | .string s => s.data.toList | _ => []
theorem open_fds {H : Type} {enc : TypeId × Value → H} {w : World} {base : Nat} {spare : Nat → Bool} {held : Bool} {fuel : Nat} {cs : List Value} {x : DataW H × List MemPlace}
    (h : DataW.trod enc Try.prog w base spare held fuel 23 cs = some x) :
    ∃ (v : Value) (l : List Fd), cs = [v] ∧ FdIn w v l ∧ (∀ f ∈ l, -9223372036854775808 ≤ f.ty ∧ f.ty ≤ 9223372036854775807) ∧ (∀ f ∈ l, f.body.length ≤ maxLen) ∧ l.length ≤ maxLen := by
  rcases Deep.open_slice_pairs Try.underlying23 Try.underlying44 (by kernel_rfl) rfl rfl (by kernel_rfl) (by kernel_rfl) h with ⟨hcs, _⟩ | ⟨a, len, cap, m, n, V0, V1, D0, D1, P0, P1, hcs, _, hl, hm, hmm, hx, hall⟩
  · exact ⟨_, [], hcs, .inl ⟨_, _, rfl, fun _ => rfl, rfl⟩, by simp, by simp, Nat.zero_le _⟩
  · have hlm : len ≤ m := by rw [hmm]; split <;> omega
    have each : ∀ i, i < len → V0 i = .int .i64 (intOf (V0 i)) ∧ (Lit.int .i64 (intOf (V0 i))).wf = true ∧ V1 i = .string (bs (strOf (V1 i))) ∧ (strOf (V1 i)).length ≤ maxLen := by
      intro i hi
      obtain ⟨_, _, t0, t1⟩ := hall i (by omega)
      obtain ⟨k, e0, _, hw⟩ := DataW.trod_int Try.underlying3 (show DataW.trod _ Try.prog w base spare held n 3 _ = _ from t0)
      obtain ⟨s, e1, _, hs⟩ := DataW.trod_string Try.underlying9 (show DataW.trod _ Try.prog w base spare held n 9 _ = _ from t1)
      simp only [List.cons.injEq, and_true] at e0 e1
      rw [e0, e1]
      refine ⟨rfl, hw, ?_, ?_⟩
      · show Value.string s = .string (bs s.data.toList)
        rw [bs_data]
      · show s.data.toList.length ≤ maxLen
        have : s.data.toList.length = s.size := by rw [← bs_size, bs_data]
        rw [this]
        exact hs
    refine ⟨_, (List.range len).map fun i => ⟨intOf (V0 i), strOf (V1 i)⟩, hcs, ?_, ?_, ?_, by simp; omega⟩
    · by_cases h0 : len = 0
      · subst h0
        exact .inl ⟨_, _, rfl, (fun h => by cases h), rfl⟩
      · obtain ⟨b, off, spot⟩ := a
        have c0 := (hall 0 (by omega)).1
        have hs : spot = none := by simpa [Addr.add] using World.cell?_spot c0
        subst hs
        refine .inr ⟨b, off, cap, by simp, by simpa [Addr.add] using World.block_lt_of_cell? w _ c0, fun i hi => ?_⟩
        have hi' : i < len := by simpa using hi
        obtain ⟨c1, c2, _, _⟩ := hall i (by omega)
        obtain ⟨v0, _, v1, _⟩ := each i hi'
        rw [Addr.add_lit] at c1 c2
        rw [show ((List.range len).map fun i => (⟨intOf (V0 i), strOf (V1 i)⟩ : Fd)).getD i ⟨0, []⟩ = ⟨intOf (V0 i), strOf (V1 i)⟩ by simp [List.getD_eq_getElem?_getD, hi']]
        rw [v0] at c1
        rw [v1] at c2
        exact ⟨c1, by rw [Nat.add_assoc]; exact c2⟩
    · intro f hf
      obtain ⟨i, hi, rfl⟩ := List.mem_map.1 hf
      have := bounds_i64 (each i (List.mem_range.1 hi)).2.1
      show -9223372036854775808 ≤ intOf (V0 i) ∧ intOf (V0 i) ≤ 9223372036854775807
      omega
    · intro f hf
      obtain ⟨i, hi, rfl⟩ := List.mem_map.1 hf
      exact (each i (List.mem_range.1 hi)).2.2.2
end Go.Proofs.Ytdcpohbgbnbgmaa.W
