/- Layer 9's own code, walked: a slot's bytes told; which slot is the newest one, and which is next. -/
import Derived.Test.YtcfdggeoecdnnaaDrC
import Derived.BigQuiet
namespace Go.Proofs.Ytcfdggeoecdnnaa.W
open Go.RowKit Go.Sort
set_option linter.unusedVariables false
set_option linter.unusedSimpArgs false
def slV (x : Sl) : Value := .agg #[.bool x.whole, .int .u32 x.seq, .int .i64 x.freq]
theorem kept_block {v v' : World} {k : Nat} {c : Obj} (h : v.heap[k]? = some c) (b : Below v.heap.size v v') : v'.heap[k]? = some c := (b.block _ (Array.getElem?_eq_some_iff.1 h).1).trans h
theorem slot_cells {w : World} {p : Nat} {a b c : Value} {t : TypeId} (h : w.heap[p]? = some (.cells #[a, b, c] t (0, 0))) :
    w.cell? ⟨p, 0, none⟩ = some a ∧ w.cell? ⟨p, 1, none⟩ = some b ∧ w.cell? ⟨p, 2, none⟩ = some c ∧ w.frozen? ⟨p, 0, none⟩ = false ∧ w.frozen? ⟨p, 1, none⟩ = false ∧ w.frozen? ⟨p, 2, none⟩ = false := by
  refine ⟨?_, ?_, ?_, ?_, ?_, ?_⟩ <;> simp [World.cell?, World.frozen?, h]
theorem drop_take (l : List UInt8) (a b : Nat) : (l.drop a).take (b - a) = cut l a b := rfl
set_option maxHeartbeats 6400000 in
theorem unpack_any (t : List UInt8) (ht : t.length = 16) (w : World) :
    Calls Try.prog 19 #[.string (bs t)] w fun e w' => e = .returned (slV (slOf t)) ∧ Below w.heap.size w w' := by
  have s1 : ∀ w, (Instr.slice 9 (.string (bs t)) (some (.int .i64 1)) (some (.int .i64 5)) none).run Try.prog w = .ok (.string (bs (cut t 1 5))) w := slice_at t 1 5 (by decide) (by omega)
  have s2 : ∀ w, (Instr.slice 9 (.string (bs t)) (some (.int .i64 5)) (some (.int .i64 13)) none).run Try.prog w = .ok (.string (bs (cut t 5 13))) w := slice_at t 5 13 (by decide) (by omega)
  have n1 := fun w => number_any (cut t 1 5) (by rw [cut_length _ _ _ (by omega)]; decide) w
  have n2 := fun w => number_any (cut t 5 13) (by rw [cut_length _ _ _ (by omega)]; decide) w
  have r1 := num_cut t 1 5 (by omega)
  have r2 := num_cut t 5 13 (by omega)
  simp only [Nat.reduceSub, Int.reducePow] at r1 r2
  have e1 : seqOf t = num (cut t 1 5) := rfl
  have e2 : freqOf t = fi (num (cut t 5 13)) := rfl
  have w1 : IntKind.u32.wrap (num (cut t 1 5)) = num (cut t 1 5) := by rw [IntKind.wrap_u32]; omega
  have w2 : IntKind.i64.wrap (num (cut t 5 13)) = fi (num (cut t 5 13)) := by rw [IntKind.wrap_i64]; unfold fi; split <;> omega
  have fr := fi_range (num (cut t 5 13)) r2.1 r2.2
  have pk := fun w => pack_any (num (cut t 1 5)) (fi (num (cut t 5 13))) r1.1 r1.2 fr.1 fr.2 w
  have hv : slOf t = if t = pack (num (cut t 1 5)) (fi (num (cut t 5 13))) then ⟨true, num (cut t 1 5), fi (num (cut t 5 13))⟩ else ⟨false, 0, 0⟩ := rfl
  generalize num (cut t 1 5) = q at *
  generalize fi (num (cut t 5 13)) = f at *
  generalize num (cut t 5 13) = f' at *
  generalize cut t 1 5 = T1 at *
  generalize cut t 5 13 = T2 at *
  by_cases hp : t = pack q f
  · rw [if_pos hp] at hv
    rw [← hp] at pk
    clear hp e1 e2
    have HV := Lib.hid hv
    clear hv
    go_enter Try.func19, Try.ntmps19
    go_wp2_with fail
    go_quiet (first | (go_at_call 25; (with_reducible exact quiet_eq (n1 _))) | (go_at_call 25; (with_reducible exact quiet_eq (n2 _))))
    go_wp2_with fail
    (with_reducible refine (pk _).mono ?_)
    rintro e w' ⟨rfl, hB⟩
    have h' : w'.heap[w.heap.size]? = some (.cells #[.bool false, .int .u32 0, .int .i64 0] 35 (0, 0)) := kept_block (show ((w.alloc (.cells #[.bool false, .int .u32 0, .int .i64 0] 35)).drewN nq).heap[w.heap.size]? = _ from heap_alloc_new _ _) hB
    have b' : Below w.heap.size w w' := (below_drewN (Below.alloc (Below.refl w.heap.size w) (Nat.le_refl _) _) nq).trans (hB.mono (by simp [World.drewN]))
    obtain ⟨c0, c1, c2, z0, z1, z2⟩ := slot_cells h'
    have hl := (Array.getElem?_eq_some_iff.1 h').1
    have b3 := ((b'.setCell (p := ⟨w.heap.size, 0, none⟩) (Nat.le_refl _) (.bool true)).setCell (p := ⟨w.heap.size, 1, none⟩) (Nat.le_refl _) (.int .u32 q)).setCell (p := ⟨w.heap.size, 2, none⟩) (Nat.le_refl _) (.int .i64 f)
    clear hB h' b' pk
    go_wp2_with fail
    rw [HV.out]
    exact bodyPost_ret (v := .agg #[.bool true, .int .u32 q, .int .i64 f]) (by simp [results, Try.results19, go_sem, c0, c1, c2, z0, z1, z2]) rfl ⟨rfl, b3⟩
  · rw [if_neg hp] at hv
    have hn : (t == pack q f) = false := beq_false_of_ne hp
    generalize pack q f = PK at *
    clear hp e1 e2
    have HV := Lib.hid hv
    clear hv
    go_enter Try.func19, Try.ntmps19
    go_wp2_with fail
    go_quiet (first | (go_at_call 25; (with_reducible exact quiet_eq (n1 _))) | (go_at_call 25; (with_reducible exact quiet_eq (n2 _))))
    go_wp2_with fail
    (with_reducible refine (pk _).mono ?_)
    rintro e w' ⟨rfl, hB⟩
    have h' : w'.heap[w.heap.size]? = some (.cells #[.bool false, .int .u32 0, .int .i64 0] 35 (0, 0)) := kept_block (show ((w.alloc (.cells #[.bool false, .int .u32 0, .int .i64 0] 35)).drewN nq).heap[w.heap.size]? = _ from heap_alloc_new _ _) hB
    have b' : Below w.heap.size w w' := (below_drewN (Below.alloc (Below.refl w.heap.size w) (Nat.le_refl _) _) nq).trans (hB.mono (by simp [World.drewN]))
    obtain ⟨c0, c1, c2, z0, z1, z2⟩ := slot_cells h'
    have hl := (Array.getElem?_eq_some_iff.1 h').1
    have b3 := ((b'.setCell (p := ⟨w.heap.size, 0, none⟩) (Nat.le_refl _) (.bool false)).setCell (p := ⟨w.heap.size, 1, none⟩) (Nat.le_refl _) (.int .u32 0)).setCell (p := ⟨w.heap.size, 2, none⟩) (Nat.le_refl _) (.int .i64 0)
    clear hB h' b' pk
    go_wp2_with fail
    rw [HV.out]
    exact bodyPost_ret (v := .agg #[.bool false, .int .u32 0, .int .i64 0]) (by simp [results, Try.results19, go_sem, c0, c1, c2, z0, z1, z2]) rfl ⟨rfl, b3⟩
end Go.Proofs.Ytcfdggeoecdnnaa.W
