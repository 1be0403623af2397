/- Layer 5's own code, walked: questions; references. -/
import Derived.Test.YthfgjhffcbehbaaDoorHeB
import Derived.Test.YthfgjhffcbehbaaDoorHeD
import Derived.Test.YthfgjhffcbehbaaDoorHdF
import Derived.Laws.CopyRow
import Derived.WalkKit

namespace Go.Proofs.YthfgjhffcbehbaaDoor.W
open Go.RowKit
set_option linter.unusedVariables false
set_option linter.unusedSimpArgs false
set_option maxHeartbeats 800000 in
theorem hask_any (v p t : Int) (v0 : -9223372036854775808 ≤ v) (v1 : v ≤ 9223372036854775807) (p0 : -9223372036854775808 ≤ p) (p1 : p ≤ 9223372036854775807) (t0 : 0 ≤ t) (t1 : t < 18446744073709551616) (w : World) (L : Laid w) :
    Calls Tryd.prog 15 #[.int .i64 v, .int .i64 p, .int .u64 t] w fun e w' => e = .returned (.tuple #[.string (bs (askH v p t).encS), .int .i64 (askH v p t).encE]) ∧ Below w.heap.size w w' := by
  have c := fun w L => henc_any _ (askH_typed v p t v0 v1 p0 p1 t0 t1) w L
  generalize bs (askH v p t).encS = S at *
  generalize (askH v p t).encE = E at *
  unfold askH Hd.val at c
  have L1 : Laid (w.alloc (.cells #[.int .i64 0, .int .i64 v, .int .i64 3, .int .i64 0, .int .i64 p, .int .i64 0, .int .u32 0, .int .u32 0, .int .u32 0, .int .u64 0, .int .u64 0, .int .u64 0, .int .u64 t] 25)) := L.kept (Below.alloc (Below.refl _ _) (Nat.le_refl _) _)
  go_enter Tryd.func15, Tryd.ntmps15
  go_wp2_with fail
  (with_reducible refine (c _ ‹_›).mono ?_)
  rintro e w1 ⟨rfl, hB⟩
  go_wp2_with fail
  go_ret2
  exact ⟨rfl, by first | exact hB | exact below_in hB⟩
theorem copy_text (l : List UInt8) (w : World) : ∃ w' n, (∀ ty, (Builtin.copy_ #[37, 9] ty #[.slice (some ⟨w.heap.size, 0, none⟩) 4 4, .string (bs l)]).run Tryd.prog (w.alloc (.cells #[.int .u8 0, .int .u8 0, .int .u8 0, .int .u8 0] 56)) = .ok n w') ∧
    (convert 37 9 (.slice (some ⟨w.heap.size, 0, none⟩) 4 4)).run Tryd.prog w' = .ok (.string (bs (refL l))) w' ∧ Below w.heap.size w w' := by
  have hg : (w.alloc (.cells #[.int .u8 0, .int .u8 0, .int .u8 0, .int .u8 0] 56)).heap[w.heap.size]? = some (.cells #[.int .u8 0, .int .u8 0, .int .u8 0, .int .u8 0] 56 (0, 0)) := heap_alloc_new _ _
  have hl4 : (bc (l.take 4)).length = min 4 l.length := by rw [bc_length, List.length_take]
  have hst := run_storeCells_at Tryd.prog w.heap.size 0 56 (bc (l.take 4)) 0 _ _ hg (by rw [hl4]; simp <;> omega) (by
    intro v hv
    simp only [bc, List.mem_map] at hv
    obtain ⟨b, _, rfl⟩ := hv
    rfl)
  have hrow : (([.int .u8 0, .int .u8 0, .int .u8 0, .int .u8 0] : List Value).take 0 ++ bc (l.take 4) ++ ([.int .u8 0, .int .u8 0, .int .u8 0, .int .u8 0] : List Value).drop (0 + 0 + (bc (l.take 4)).length)) = bc (refL l) := by
    have e : ([.int .u8 0, .int .u8 0, .int .u8 0, .int .u8 0] : List Value) = bc [0, 0, 0, 0] := by simp [bc]
    have hr : refL l = l.take 4 ++ ([0, 0, 0, 0] : List UInt8).drop (min 4 l.length) := by
      unfold refL
      match l with
      | [] => rfl
      | [a] => rfl
      | [a, b] => rfl
      | [a, b, c] => rfl
      | a :: b :: c :: d :: r =>
        have : min 4 (a :: b :: c :: d :: r).length = 4 := by simp <;> omega
        rw [this]
        rfl
    rw [hl4, e, hr]
    simp [bc]
  obtain ⟨i0, hi, hz0, hz1, hz2⟩ := info_parts info_u8
  have hb : ((w.alloc (.cells #[.int .u8 0, .int .u8 0, .int .u8 0, .int .u8 0] 56)).setRow w.heap.size (bc (refL l)).toArray).heap[w.heap.size]? = some (.cells (bc (refL l)).toArray 56 (0, 0)) := setRow_heap _ _ _ _ _ _ hg
  refine ⟨(w.alloc (.cells #[.int .u8 0, .int .u8 0, .int .u8 0, .int .u8 0] 56)).setRow w.heap.size (bc (refL l)).toArray, goInt ((Nat.min l.length 4 : Nat) : Int), fun ty => ?_, ?_, ?_⟩
  · have htk : List.take (min l.length 4) (List.map (fun b : UInt8 => Value.int IntKind.u8 (b.toNat : Int)) (bs l).data.toList) = bc (l.take 4) := by
      show List.take (min l.length 4) (List.map _ l) = _
      unfold bc
      rw [← List.map_take]
      congr 1
      by_cases h : l.length ≤ 4
      · rw [Nat.min_eq_left h, List.take_of_length_le (Nat.le_refl _), List.take_of_length_le h]
      · rw [Nat.min_eq_right (by omega)]
    change _ = Result.ok () ((w.alloc _).setRow _ (([.int .u8 0, .int .u8 0, .int .u8 0, .int .u8 0] : List Value).take 0 ++ bc (l.take 4) ++ ([.int .u8 0, .int .u8 0, .int .u8 0, .int .u8 0] : List Value).drop (0 + 0 + (bc (l.take 4)).length)).toArray) at hst
    rw [hrow] at hst
    simp [Builtin.copy_, run_underlying Tryd.underlying37, Builtin.lenOf, Builtin.firstCells, sizeOf, typeInfo, hi, hz1, bs_size]
    rw [htk, hst]
    simp [Result.andThen]
  · have hlr : (refL l).length = 4 := refL_length l
    have := run_convert_bytes_back (P := Tryd.prog) ((w.alloc (.cells #[.int .u8 0, .int .u8 0, .int .u8 0, .int .u8 0] 56)).setRow w.heap.size (bc (refL l)).toArray) 37 9 5 ⟨w.heap.size, 0, none⟩ 4 (refL l) Tryd.underlying37 Tryd.underlying5 Tryd.underlying9 (by
      intro j hj
      rw [Addr.add_lit, Nat.zero_add, cell_of_row _ _ _ _ _ _ hb]
      simp [bc, hj])
    rw [hlr] at this
    exact this
  · refine ⟨rfl, rfl, rfl, ?_, ?_⟩
    · simp [World.setRow]
    · intro k hk
      simp only [World.setRow, Array.getElem?_modify]
      rw [if_neg (by omega)]
      exact Below.heap_alloc _ _ _ hk
set_option maxHeartbeats 1600000 in
theorem href_any (l : List UInt8) (hl : (l.length : Int) ≤ 4611686018427387904) (w : World) :
    Calls Tryd.prog 17 #[.string (bs l)] w fun e w' => e = .returned (.int .u32 (num (refL l))) ∧ Below w.heap.size w w' := by
  obtain ⟨w1, n, h1, h2, hB⟩ := copy_text l w
  have c := take_u32 (refL l) (by rw [refL_length]; exact Nat.le_refl _) (by rw [refL_length]; omega)
  rw [List.take_of_length_le (by rw [refL_length]; exact Nat.le_refl _)] at c
  generalize bs ((refL l).drop 4) = R at *
  generalize num (refL l) = r at *
  generalize bs (refL l) = S at *
  generalize bs l = T at *
  go_enter Tryd.func17, Tryd.ntmps17
  go_wp2_with fail
  (with_reducible refine (c _).mono ?_)
  rintro e w2 ⟨rfl, m, rfl⟩
  go_wp2_with fail
  go_ret
  exact ⟨rfl, below_drewN hB m⟩
end Go.Proofs.YthfgjhffcbehbaaDoor.W
