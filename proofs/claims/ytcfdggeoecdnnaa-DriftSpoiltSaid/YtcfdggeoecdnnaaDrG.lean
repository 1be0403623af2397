/- Layer 9's own code, walked: a byte put; the end of power, and who catches it; a text written. -/
import Derived.Test.YtcfdggeoecdnnaaDrF
import Derived.RegionCalls
namespace Go.Proofs.Ytcfdggeoecdnnaa.W
open Go.RowKit Go.Sort
set_option linter.unusedVariables false
set_option linter.unusedSimpArgs false
theorem dk_set (S : List UInt8) (L : Int) (o : Bool) (hS : S.length = 32) (j : Nat) (hj : j < 32) (v : Int) (h0 : 0 ≤ v) (h1 : v < 256) : (dkC ⟨S, L, o⟩).toArray.setIfInBounds j (.int .u8 v) = (dkC ⟨S.set j (b8 v), L, o⟩).toArray := by
  unfold dkC
  simp only [List.setIfInBounds_toArray]
  rw [List.set_append_left _ _ (by rw [bc_length]; omega)]
  simp [bc, List.map_set, b8_nat v h0 h1]
theorem ok_mk {S : List UInt8} {L : Int} {o : Bool} (hS : S.length = 32) (h0 : -1 ≤ L) (h1 : L ≤ 9223372036854775807) : (Dk.mk S L o).Ok := ⟨hS, h0, h1⟩
set_option maxHeartbeats 6400000 in
theorem put_free (S : List UInt8) (hS : S.length = 32) (p j : Nat) (hj : j < 32) (v : Int) (v0 : 0 ≤ v) (v1 : v < 256) (w : World) (h : w.heap[p]? = some (.cells (dkC ⟨S, -1, false⟩).toArray 45 (0, 0))) :
    Calls Try.prog 23 #[.pointer (some ⟨p, 0, none⟩), .int .i64 j, .int .u8 v] w fun e w' => e = .returned (.tuple #[]) ∧ w'.heap[p]? = some (.cells (dkC ⟨S.set j (b8 v), -1, false⟩).toArray 45 (0, 0)) ∧ Touch (fun k => k = p) w w' := by
  have ok := ok_mk (o := false) hS (show (-1 : Int) ≤ -1 by decide) (by decide)
  obtain ⟨c0, c1, c2, z0, z1, z2⟩ := dk_cells ok h
  have cj := dk_byte ok h j hj
  have zj := bc_frozen h j
  have hh : (w.setCell ⟨p, j, none⟩ (.int .u8 v)).heap[p]? = some (.cells (dkC ⟨S.set j (b8 v), -1, false⟩).toArray 45 (0, 0)) := by
    rw [← dk_set S (-1) false hS j hj v v0 v1]
    exact block_set _ _ h
  have ht := (Touch.refl (fun k => k = p) w).setCell (p := ⟨p, j, none⟩) (.inl rfl) (.int .u8 v)
  simp only [] at c0 c1 c2
  rw [show decide ((0 : Int) ≤ -1) = false from rfl] at c1
  have hp := (Array.getElem?_eq_some_iff.1 h).1
  clear h ok
  go_enter Try.func23, Try.ntmps23
  go_wp2_with fail
  go_end0
  exact ⟨rfl, hh, ht⟩
set_option maxHeartbeats 6400000 in
theorem put_pays (S : List UInt8) (hS : S.length = 32) (L : Int) (l0 : 1 ≤ L) (l1 : L ≤ 9223372036854775807) (p j : Nat) (hj : j < 32) (v : Int) (v0 : 0 ≤ v) (v1 : v < 256) (w : World) (h : w.heap[p]? = some (.cells (dkC ⟨S, L, false⟩).toArray 45 (0, 0))) :
    Calls Try.prog 23 #[.pointer (some ⟨p, 0, none⟩), .int .i64 j, .int .u8 v] w fun e w' => e = .returned (.tuple #[]) ∧ w'.heap[p]? = some (.cells (dkC ⟨S.set j (b8 v), L - 1, false⟩).toArray 45 (0, 0)) ∧ Touch (fun k => k = p) w w' := by
  have ok := ok_mk (o := false) hS (show (-1 : Int) ≤ L by omega) l1
  obtain ⟨c0, c1, c2, z0, z1, z2⟩ := dk_cells ok h
  have cj := dk_byte ok h j hj
  have zj := bc_frozen h j
  have hl : (bc S).length = 32 := by rw [bc_length]; exact hS
  have hh : ((w.setCell ⟨p, 32, none⟩ (.int .i64 (L - 1))).setCell ⟨p, j, none⟩ (.int .u8 v)).heap[p]? = some (.cells (dkC ⟨S.set j (b8 v), L - 1, false⟩).toArray 45 (0, 0)) := by
    rw [← dk_set S (L - 1) false hS j hj v v0 v1]
    have e : (dkC ⟨S, L - 1, false⟩).toArray = (dkC ⟨S, L, false⟩).toArray.setIfInBounds 32 (.int .i64 (L - 1)) := by
      unfold dkC
      rw [(tail_set _ hl _ _ _ _).1]
      simp only []
      rw [show max (L - 1) 0 = L - 1 by omega, show decide (0 ≤ L - 1) = decide (0 ≤ L) from decide_eq_decide.2 (by omega)]
    rw [e]
    exact block_set _ _ (block_set _ _ h)
  have ht := ((Touch.refl (fun k => k = p) w).setCell (p := ⟨p, 32, none⟩) (.inl rfl) (.int .i64 (L - 1))).setCell (p := ⟨p, j, none⟩) (.inl rfl) (.int .u8 v)
  simp only [] at c0 c1 c2
  rw [show decide (0 ≤ L) = true from decide_eq_true (by omega)] at c1
  rw [show max L 0 = L by omega] at c0
  have hp := (Array.getElem?_eq_some_iff.1 h).1
  clear h ok
  go_enter Try.func23, Try.ntmps23
  go_wp2_with fail
  go_end0
  exact ⟨rfl, hh, ht⟩
def powerOut : PanicEntry := { v := .iface 61 (.agg #[]), recovered := false }
set_option maxHeartbeats 6400000 in
theorem put_dies (S : List UInt8) (hS : S.length = 32) (p j : Nat) (hj : j < 32) (v : Int) (w : World) (h : w.heap[p]? = some (.cells (dkC ⟨S, 0, false⟩).toArray 45 (0, 0))) :
    Calls Try.prog 23 #[.pointer (some ⟨p, 0, none⟩), .int .i64 j, .int .u8 v] w fun e w' => e = .panicked [powerOut] ∧ w'.heap[p]? = some (.cells (dkC ⟨S, 0, true⟩).toArray 45 (0, 0)) ∧ Touch (fun k => k = p) w w' := by
  have ok := ok_mk (o := false) hS (show (-1 : Int) ≤ 0 by decide) (by decide)
  obtain ⟨c0, c1, c2, z0, z1, z2⟩ := dk_cells ok h
  have hl : (bc S).length = 32 := by rw [bc_length]; exact hS
  have hh : (w.setCell ⟨p, 34, none⟩ (.bool true)).heap[p]? = some (.cells (dkC ⟨S, 0, true⟩).toArray 45 (0, 0)) := by
    have e : (dkC ⟨S, 0, true⟩).toArray = (dkC ⟨S, 0, false⟩).toArray.setIfInBounds 34 (.bool true) := by
      unfold dkC
      rw [(tail_set _ hl _ _ _ _).2.2]
    rw [e]
    exact block_set _ _ h
  have ht := (Touch.refl (fun k => k = p) w).setCell (p := ⟨p, 34, none⟩) (.inl rfl) (.bool true)
  simp only [] at c0 c1 c2
  rw [show decide ((0 : Int) ≤ 0) = true from rfl] at c1
  rw [show max (0 : Int) 0 = 0 from rfl] at c0
  have hp := (Array.getElem?_eq_some_iff.1 h).1
  clear h ok
  go_enter Try.func23, Try.ntmps23
  go_wp2_with fail
  exact ⟨rfl, rfl, hh, ht⟩
set_option maxHeartbeats 6400000 in
theorem catch_out (b : Nat) (x : Int) (t : TypeId) (older : List PanicEntry) (w : World) (h : w.heap[b]? = some (.cells #[.int .i64 x] t (0, 0))) :
    CallsD Try.prog 22 #[.pointer (some ⟨b, 0, none⟩)] (.panicking (powerOut :: older)) w fun e u' w' => e = .returned (.tuple #[]) ∧ u' = .panicking ({ powerOut with recovered := true } :: older) ∧ Touch (fun k => k = b) w w' ∧ w'.heap[b]? = some (.cells #[.int .i64 90] t (0, 0)) := by
  refine callsD_of_wpS Try.func22 rfl fun c₀ cs hu => ?_
  unfold powerOut at hu ⊢
  apply wpS_seq
  apply wpS_region
  simp [wpOpsS, go_sem, recoverD, hu, Try.ntmps22, Exit.thenS]
  have hta : ∀ (xT : TypeId) w, (Instr.typeAssert (.iface 61 (.agg #[])) xT 61 true).run Try.prog w = .ok (.tuple #[.agg #[], .bool true]) w := fun xT w => by simp [Instr.typeAssert, run_underlying Try.underlying61, go_sem, Result.andThen]
  have h' := kept_block h (below_one' w (.cells #[] 61))
  have hc : (w.alloc (.cells #[] 61)).cell? ⟨b, 0, none⟩ = some (.int .i64 x) := by simp [World.cell?, h']
  have hz := bc_frozen h' 0
  have hb := (Array.getElem?_eq_some_iff.1 h).1
  have h2 := kept_block (block_set 0 (.int .i64 90) h) (below_one' (w.setCell ⟨b, 0, none⟩ (.int .i64 90)) (.cells #[] 61))
  have t2 := ((Touch.refl (fun k => k = b) w).setCell (p := ⟨b, 0, none⟩) (.inl rfl) (.int .i64 90)).alloc (.cells #[] 61)
  clear h h'
  refine wpS_of_wp ?_
  go_wp2
  exact ⟨rfl, _, rfl, _, by simp [results, Try.results22], rfl, rfl, t2, h2⟩
theorem catch_idle (q : Addr) (w : World) :
    CallsD Try.prog 22 #[.pointer (some q)] .returning w fun e u' w' => e = .returned (.tuple #[]) ∧ u' = .returning ∧ w' = w := by
  refine callsD_of_wpS Try.func22 rfl fun c₀ cs hu => ?_
  apply wpS_seq
  apply wpS_region
  simp [wpOpsS, go_sem, recoverD, hu, Try.ntmps22, Exit.thenS]
  refine wpS_of_wp ?_
  go_wp2
  cases c₀
  simp_all [bodyPostS, results, Try.results22]
end Go.Proofs.Ytcfdggeoecdnnaa.W
