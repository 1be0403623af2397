/- Layer 5's own code, walked: questions; references. -/
import Derived.Test.YtjelbpibofngiaaHeB
import Derived.Test.YtjelbpibofngiaaRows
import Derived.Test.YtjelbpibofngiaaWdefs
import Derived.Test.YtjelbpibofngiaaHdB
import Derived.Test.YtjelbpibofngiaaHdI
import Derived.Test.YtjelbpibofngiaaHeA
import Derived.Test.YtjelbpibofngiaaHdC
import Derived.Test.YtjelbpibofngiaaHdF
import Derived.Laws.CopyRow
import Derived.WalkKit
import Derived.WalkSpells
import Derived.WalkLawsBesides
import Derived.Lib.Hide
import Derived.Lib.Zigzag
import Derived.Handy
import Derived.OwnWalk

namespace Go.Proofs.Ytjelbpibofngiaa.W
open Go.RowKit
set_option linter.unusedVariables false
set_option linter.unusedSimpArgs false
set_option maxRecDepth 100000 in
theorem copy_text (l : List UInt8) (w : World) : ∃ w' n, (∀ ty, (Builtin.copy_ #[107, 9] ty #[.slice (some ⟨w.heap.size, 0, none⟩) 4 4, .string (bs l)]).run Try.prog (w.alloc (.cells #[.int .u8 0, .int .u8 0, .int .u8 0, .int .u8 0] 106)) = .ok n w') ∧
    (convert 107 9 (.slice (some ⟨w.heap.size, 0, none⟩) 4 4)).run Try.prog w' = .ok (.string (bs (refL l))) w' ∧ Below w.heap.size w w' := by
  have hg : (w.alloc (.cells #[.int .u8 0, .int .u8 0, .int .u8 0, .int .u8 0] 106)).heap[w.heap.size]? = some (.cells #[.int .u8 0, .int .u8 0, .int .u8 0, .int .u8 0] 106 (0, 0)) := heap_alloc_new _ _
  have hl4 : (bc (l.take 4)).length = min 4 l.length := by rw [bc_length, List.length_take]
  have hst := run_storeCells_at Try.prog w.heap.size 0 106 (bc (l.take 4)) 0 _ _ hg (by rw [hl4]; simp <;> omega) (by
    intro v hv
    simp only [bc, List.mem_map] at hv
    obtain ⟨b, _, rfl⟩ := hv
    rfl)
  have hrow : (([.int .u8 0, .int .u8 0, .int .u8 0, .int .u8 0] : List Value).take 0 ++ bc (l.take 4) ++ ([.int .u8 0, .int .u8 0, .int .u8 0, .int .u8 0] : List Value).drop (0 + 0 + (bc (l.take 4)).length)) = bc (refL l) := by
    have e : ([.int .u8 0, .int .u8 0, .int .u8 0, .int .u8 0] : List Value) = bc [0, 0, 0, 0] := by simp [bc]
    have hr : refL l = l.take 4 ++ ([0, 0, 0, 0] : List UInt8).drop (min 4 l.length) := by
      unfold refL
      match l with
      | [] => rfl
      | [a] => rfl
      | [a, b] => rfl
      | [a, b, c] => rfl
      | a :: b :: c :: d :: r =>
        have : min 4 (a :: b :: c :: d :: r).length = 4 := by simp <;> omega
        rw [this]
        rfl
    rw [hl4, e, hr]
    simp [bc]
  obtain ⟨i0, hi, hz0, hz1, hz2⟩ := info_parts info_u8
  have hb : ((w.alloc (.cells #[.int .u8 0, .int .u8 0, .int .u8 0, .int .u8 0] 106)).setRow w.heap.size (bc (refL l)).toArray).heap[w.heap.size]? = some (.cells (bc (refL l)).toArray 106 (0, 0)) := setRow_heap _ _ _ _ _ _ hg
  refine ⟨(w.alloc (.cells #[.int .u8 0, .int .u8 0, .int .u8 0, .int .u8 0] 106)).setRow w.heap.size (bc (refL l)).toArray, goInt ((Nat.min l.length 4 : Nat) : Int), fun ty => ?_, ?_, ?_⟩
  · have htk : List.take (min l.length 4) (List.map (fun b : UInt8 => Value.int IntKind.u8 (b.toNat : Int)) (bs l).data.toList) = bc (l.take 4) := by
      show List.take (min l.length 4) (List.map _ l) = _
      unfold bc
      rw [← List.map_take]
      congr 1
      by_cases h : l.length ≤ 4
      · rw [Nat.min_eq_left h, List.take_of_length_le (Nat.le_refl _), List.take_of_length_le h]
      · rw [Nat.min_eq_right (by omega)]
    change _ = Result.ok () ((w.alloc _).setRow _ (([.int .u8 0, .int .u8 0, .int .u8 0, .int .u8 0] : List Value).take 0 ++ bc (l.take 4) ++ ([.int .u8 0, .int .u8 0, .int .u8 0, .int .u8 0] : List Value).drop (0 + 0 + (bc (l.take 4)).length)).toArray) at hst
    rw [hrow] at hst
    simp [Builtin.copy_, run_underlying Try.underlying107, Builtin.lenOf, Builtin.firstCells, sizeOf, typeInfo, hi, hz1, bs_size]
    rw [htk, hst]
    simp [Result.andThen]
  · have hlr : (refL l).length = 4 := refL_length l
    have := run_convert_bytes_back (P := Try.prog) ((w.alloc (.cells #[.int .u8 0, .int .u8 0, .int .u8 0, .int .u8 0] 106)).setRow w.heap.size (bc (refL l)).toArray) 107 9 5 ⟨w.heap.size, 0, none⟩ 4 (refL l) Try.underlying107 Try.underlying5 Try.underlying9 (by
      intro j hj
      rw [Addr.add_lit, Nat.zero_add, cell_of_row _ _ _ _ _ _ hb]
      simp [bc, hj])
    rw [hlr] at this
    exact this
  · refine ⟨rfl, rfl, rfl, ?_, ?_⟩
    · simp [World.setRow]
    · intro k hk
      simp only [World.setRow, Array.getElem?_modify]
      rw [if_neg (by omega)]
      exact Below.heap_alloc _ _ _ hk
set_option maxHeartbeats 1600000 in
theorem href_any (l : List UInt8) (hl : (l.length : Int) ≤ 4611686018427387904) (w : World) :
    Calls Try.prog 71 #[.string (bs l)] w fun e w' => e = .returned (.int .u32 (num (refL l))) ∧ Below w.heap.size w w' := by
  obtain ⟨w1, n, h1, h2, hB⟩ := copy_text l w
  have c := take_u32 (refL l) (by rw [refL_length]; exact Nat.le_refl _) (by rw [refL_length]; omega)
  rw [List.take_of_length_le (by rw [refL_length]; exact Nat.le_refl _)] at c
  generalize bs ((refL l).drop 4) = R at *
  generalize num (refL l) = r at *
  generalize bs (refL l) = S at *
  generalize bs l = T at *
  go_enter Try.func71, Try.ntmps71
  go_wp2_with fail
  (with_reducible refine (c _).mono ?_)
  rintro e w2 ⟨rfl, m, rfl⟩
  go_wp2_with fail
  go_ret
  exact ⟨rfl, below_drewN hB m⟩
end Go.Proofs.Ytjelbpibofngiaa.W
