/- Layer 11's own code, walked: what each closure makes of a state; what makes the closures. (Written by wip/genRdC.py.) -/
import Derived.Test.YtfangllkfcmefaaGreatRdB
namespace Go.Proofs.YtfangllkfcmefaaGreat.W
open Go.RowKit Go.Sort
set_option linter.unusedVariables false
set_option linter.unusedSimpArgs false
theorem or_oneU : ∀ r : Fin 256, (bits .or .u8 (r.val : Int) 1) = if (r.val : Int) % 2 = 0 then (r.val : Int) + 1 else (r.val : Int) := by decide +kernel
theorem and_seven : ∀ r : Fin 256, (bits .and .u8 (r.val : Int) 7) = (r.val : Int) % 8 := by decide +kernel
theorem or_oneI {r : Int} (h0 : 0 ≤ r) (h1 : r ≤ 255) : bits .or .u8 r 1 = if r % 2 = 0 then r + 1 else r := by
  have := or_oneU ⟨r.toNat, by omega⟩
  simpa [Int.toNat_of_nonneg h0] using this
theorem and_sevenI {r : Int} (h0 : 0 ≤ r) (h1 : r ≤ 255) : bits .and .u8 r 7 = r % 8 := by
  have := and_seven ⟨r.toNat, by omega⟩
  simpa [Int.toNat_of_nonneg h0] using this
set_option maxRecDepth 100000 in
set_option maxHeartbeats 3200000 in
theorem gasking_any (s : Rs) (st : s.Typed) (w : World) : Calls Tryz.prog 11 #[s.val] w fun e w' => e = .returned (Rs.mk (s.reg * 2 % 256) s.host s.peer s.burst s.next).val ∧ Below w.heap.size w w' := by
  obtain ⟨h0, h1⟩ := st.reg
  have hA : Below w.heap.size w ((w.alloc (.cells #[.int .u8 (s.reg * 2 % 256), .int .i64 s.host, .int .i64 s.peer, .int .i64 s.burst, .int .i64 s.next] 27)).alloc (.cells #[.int .u8 (s.reg * 2 % 256), .int .i64 s.host, .int .i64 s.peer, .int .i64 s.burst, .int .i64 s.next] 27)) := ((Below.refl _ _).alloc (Nat.le_refl _) _).alloc (by simp) _
  unfold Rs.val
  dsimp only
  go_enter Tryz.func11, Tryz.ntmps11
  go_wp2_with fail
  refine bodyPost_ret (v := .agg #[.int .u8 (s.reg * 2 % 256), .int .i64 s.host, .int .i64 s.peer, .int .i64 s.burst, .int .i64 s.next]) ?_ rfl ?_
  · simp [results, Tryz.results11, go_sem]
  · exact ⟨rfl, hA⟩
set_option maxRecDepth 100000 in
set_option maxHeartbeats 3200000 in
theorem ganswering_any (s : Rs) (st : s.Typed) (w : World) : Calls Tryz.prog 32 #[s.val] w fun e w' => e = .returned (Rs.mk (if s.reg % 2 = 0 then s.reg + 1 else s.reg) s.host s.peer s.burst s.next).val ∧ Below w.heap.size w w' := by
  obtain ⟨h0, h1⟩ := st.reg
  rw [← or_oneI h0 h1]
  have hA : Below w.heap.size w ((w.alloc (.cells #[.int .u8 (bits .or .u8 s.reg 1), .int .i64 s.host, .int .i64 s.peer, .int .i64 s.burst, .int .i64 s.next] 27)).alloc (.cells #[.int .u8 (bits .or .u8 s.reg 1), .int .i64 s.host, .int .i64 s.peer, .int .i64 s.burst, .int .i64 s.next] 27)) := ((Below.refl _ _).alloc (Nat.le_refl _) _).alloc (by simp) _
  unfold Rs.val
  dsimp only
  go_enter Tryz.func32, Tryz.ntmps32
  go_wp2_with fail
  refine bodyPost_ret (v := .agg #[.int .u8 (bits .or .u8 s.reg 1), .int .i64 s.host, .int .i64 s.peer, .int .i64 s.burst, .int .i64 s.next]) ?_ rfl ?_
  · simp [results, Tryz.results32, go_sem]
  · exact ⟨rfl, hA⟩
set_option maxRecDepth 100000 in
set_option maxHeartbeats 3200000 in
theorem ghost1 (p : Pm) (s : Rs) (n : Int) (bp bn : Nat) (w : World) (hp : w.heap[bp]? = some (.cells (pmC p) 24 (0, 0))) (hn : w.heap[bn]? = some (.cells #[.int .i64 n] 3 (0, 0))) :
    Calls Tryz.prog 68 #[s.val, .pointer (some ⟨bp, 0, none⟩), .pointer (some ⟨bn, 0, none⟩)] w fun e w' => e = .returned (Rs.mk s.reg (heldI p n) s.peer s.burst s.next).val ∧ Below w.heap.size w w' := by
  have hA : Below w.heap.size w ((w.alloc (.cells #[.int .u8 s.reg, .int .i64 s.host, .int .i64 s.peer, .int .i64 s.burst, .int .i64 s.next] 27)).alloc (.cells rsZ 27)) := ((Below.refl _ _).alloc (Nat.le_refl _) _).alloc (by simp) _
  have z0 : ((w.alloc (.cells #[.int .u8 s.reg, .int .i64 s.host, .int .i64 s.peer, .int .i64 s.burst, .int .i64 s.next] 27)).alloc (.cells rsZ 27)).heap[w.heap.size]? = some (.cells #[.int .u8 s.reg, .int .i64 s.host, .int .i64 s.peer, .int .i64 s.burst, .int .i64 s.next] 27 (0, 0)) := laid _ (heap_alloc_new w _)
  have z1 : ((w.alloc (.cells #[.int .u8 s.reg, .int .i64 s.host, .int .i64 s.peer, .int .i64 s.burst, .int .i64 s.next] 27)).alloc (.cells rsZ 27)).heap[w.heap.size + 1]? = some (.cells rsZ 27 (0, 0)) := by
    have := heap_alloc_new (w.alloc (.cells #[.int .u8 s.reg, .int .i64 s.host, .int .i64 s.peer, .int .i64 s.burst, .int .i64 s.next] 27)) (.cells rsZ 27)
    rwa [World.size_alloc] at this
  have hp2 : ((w.alloc (.cells #[.int .u8 s.reg, .int .i64 s.host, .int .i64 s.peer, .int .i64 s.burst, .int .i64 s.next] 27)).alloc (.cells rsZ 27)).heap[bp]? = some (.cells (pmC p) 24 (0, 0)) := laid _ (laid _ hp)
  have n0 : ((w.alloc (.cells #[.int .u8 s.reg, .int .i64 s.host, .int .i64 s.peer, .int .i64 s.burst, .int .i64 s.next] 27)).alloc (.cells rsZ 27)).cell? ⟨bn, 0, none⟩ = some (.int .i64 n) := cell_of_one (laid _ (laid _ hn))
  have c := gheld_any p n
  clear hp hn
  generalize (heldI p n) = r at *
  have HA := Lib.hid (And.intro z0 (And.intro z1 hA))
  clear z0 z1 hA
  unfold Pm.val Rs.val rsZ at *
  dsimp only at *
  go_enter Tryz.func68, Tryz.ntmps68
  go_upto_region 1 with fail
  generalize ((w.alloc (.cells #[.int .u8 s.reg, .int .i64 s.host, .int .i64 s.peer, .int .i64 s.burst, .int .i64 s.next] 27)).alloc (.cells #[.int .u8 0, .int .i64 0, .int .i64 0, .int .i64 0, .int .i64 0] 27)) = w2 at *
  go_wp2_with (refine at_load_pm10 rfl _ rfl _ rfl hp2 rfl ?_)
  (with_reducible refine (c _).mono ?_)
  rintro e w3 ⟨rfl, hB⟩
  clear hp2 n0
  have z0 := kept HA.out.1 hB
  have z1 := kept HA.out.2.1 hB
  have hBw := HA.out.2.2.trans (hB.mono HA.out.2.2.size)
  have y0 : (w3.setCell ⟨w.heap.size, 1, none⟩ (.int .i64 r)).heap[w.heap.size]? = some (.cells #[.int .u8 s.reg, .int .i64 r, .int .i64 s.peer, .int .i64 s.burst, .int .i64 s.next] 27 (0, 0)) := block_set 1 (.int .i64 r) z0
  have y1 := (block_far 1 (.int .i64 r) (show w.heap.size + 1 ≠ w.heap.size by omega)).trans z1
  have hBy := hBw.setCell (p := ⟨w.heap.size, 1, none⟩) (Nat.le_refl _) (.int .i64 r)
  have E1 := setRow_heap (w3.setCell ⟨w.heap.size, 1, none⟩ (.int .i64 r)) (w.heap.size + 1) _ #[.int .u8 s.reg, .int .i64 r, .int .i64 s.peer, .int .i64 s.burst, .int .i64 s.next] _ _ y1
  have EB := below_setRow hBy (show w.heap.size ≤ w.heap.size + 1 by omega) #[.int .u8 s.reg, .int .i64 r, .int .i64 s.peer, .int .i64 s.burst, .int .i64 s.next]
  have EE := Lib.hid (And.intro E1 EB)
  obtain ⟨a0, a1, a2, a3, a4⟩ := five_atK z0
  have fz := bc_frozenK z0
  have o1 := rs_one (Rs.mk s.reg r s.peer s.burst s.next)
  clear E1 EB hBy z0 z1 hBw
  unfold rsC at o1
  dsimp only at o1
  go_wp2_with (first | (refine at_load_rs11 rfl _ rfl _ rfl y0 rfl ?_) | (refine at_store_rs11 rfl _ _ rfl _ rfl rfl y1 rfl rfl o1 ?_))
  obtain ⟨q0, q1, q2, q3, q4⟩ := five_atK EE.out.1
  refine bodyPost_ret (v := .agg #[.int .u8 s.reg, .int .i64 r, .int .i64 s.peer, .int .i64 s.burst, .int .i64 s.next]) ?_ rfl ?_
  · simp [results, Tryz.results68, go_sem, q0, q1, q2, q3, q4]
  · exact ⟨rfl, EE.out.2⟩
set_option maxRecDepth 100000 in
set_option maxHeartbeats 3200000 in
theorem gpeer1 (p : Pm) (s : Rs) (n : Int) (bp bn : Nat) (w : World) (hp : w.heap[bp]? = some (.cells (pmC p) 24 (0, 0))) (hn : w.heap[bn]? = some (.cells #[.int .i64 n] 3 (0, 0))) :
    Calls Tryz.prog 70 #[s.val, .pointer (some ⟨bp, 0, none⟩), .pointer (some ⟨bn, 0, none⟩)] w fun e w' => e = .returned (Rs.mk s.reg s.host (heldI p n) s.burst s.next).val ∧ Below w.heap.size w w' := by
  have hA : Below w.heap.size w ((w.alloc (.cells #[.int .u8 s.reg, .int .i64 s.host, .int .i64 s.peer, .int .i64 s.burst, .int .i64 s.next] 27)).alloc (.cells rsZ 27)) := ((Below.refl _ _).alloc (Nat.le_refl _) _).alloc (by simp) _
  have z0 : ((w.alloc (.cells #[.int .u8 s.reg, .int .i64 s.host, .int .i64 s.peer, .int .i64 s.burst, .int .i64 s.next] 27)).alloc (.cells rsZ 27)).heap[w.heap.size]? = some (.cells #[.int .u8 s.reg, .int .i64 s.host, .int .i64 s.peer, .int .i64 s.burst, .int .i64 s.next] 27 (0, 0)) := laid _ (heap_alloc_new w _)
  have z1 : ((w.alloc (.cells #[.int .u8 s.reg, .int .i64 s.host, .int .i64 s.peer, .int .i64 s.burst, .int .i64 s.next] 27)).alloc (.cells rsZ 27)).heap[w.heap.size + 1]? = some (.cells rsZ 27 (0, 0)) := by
    have := heap_alloc_new (w.alloc (.cells #[.int .u8 s.reg, .int .i64 s.host, .int .i64 s.peer, .int .i64 s.burst, .int .i64 s.next] 27)) (.cells rsZ 27)
    rwa [World.size_alloc] at this
  have hp2 : ((w.alloc (.cells #[.int .u8 s.reg, .int .i64 s.host, .int .i64 s.peer, .int .i64 s.burst, .int .i64 s.next] 27)).alloc (.cells rsZ 27)).heap[bp]? = some (.cells (pmC p) 24 (0, 0)) := laid _ (laid _ hp)
  have n0 : ((w.alloc (.cells #[.int .u8 s.reg, .int .i64 s.host, .int .i64 s.peer, .int .i64 s.burst, .int .i64 s.next] 27)).alloc (.cells rsZ 27)).cell? ⟨bn, 0, none⟩ = some (.int .i64 n) := cell_of_one (laid _ (laid _ hn))
  have c := gheld_any p n
  clear hp hn
  generalize (heldI p n) = r at *
  have HA := Lib.hid (And.intro z0 (And.intro z1 hA))
  clear z0 z1 hA
  unfold Pm.val Rs.val rsZ at *
  dsimp only at *
  go_enter Tryz.func70, Tryz.ntmps70
  go_upto_region 1 with fail
  generalize ((w.alloc (.cells #[.int .u8 s.reg, .int .i64 s.host, .int .i64 s.peer, .int .i64 s.burst, .int .i64 s.next] 27)).alloc (.cells #[.int .u8 0, .int .i64 0, .int .i64 0, .int .i64 0, .int .i64 0] 27)) = w2 at *
  go_wp2_with (refine at_load_pm10 rfl _ rfl _ rfl hp2 rfl ?_)
  (with_reducible refine (c _).mono ?_)
  rintro e w3 ⟨rfl, hB⟩
  clear hp2 n0
  have z0 := kept HA.out.1 hB
  have z1 := kept HA.out.2.1 hB
  have hBw := HA.out.2.2.trans (hB.mono HA.out.2.2.size)
  have y0 : (w3.setCell ⟨w.heap.size, 2, none⟩ (.int .i64 r)).heap[w.heap.size]? = some (.cells #[.int .u8 s.reg, .int .i64 s.host, .int .i64 r, .int .i64 s.burst, .int .i64 s.next] 27 (0, 0)) := block_set 2 (.int .i64 r) z0
  have y1 := (block_far 2 (.int .i64 r) (show w.heap.size + 1 ≠ w.heap.size by omega)).trans z1
  have hBy := hBw.setCell (p := ⟨w.heap.size, 2, none⟩) (Nat.le_refl _) (.int .i64 r)
  have E1 := setRow_heap (w3.setCell ⟨w.heap.size, 2, none⟩ (.int .i64 r)) (w.heap.size + 1) _ #[.int .u8 s.reg, .int .i64 s.host, .int .i64 r, .int .i64 s.burst, .int .i64 s.next] _ _ y1
  have EB := below_setRow hBy (show w.heap.size ≤ w.heap.size + 1 by omega) #[.int .u8 s.reg, .int .i64 s.host, .int .i64 r, .int .i64 s.burst, .int .i64 s.next]
  have EE := Lib.hid (And.intro E1 EB)
  obtain ⟨a0, a1, a2, a3, a4⟩ := five_atK z0
  have fz := bc_frozenK z0
  have o1 := rs_one (Rs.mk s.reg s.host r s.burst s.next)
  clear E1 EB hBy z0 z1 hBw
  unfold rsC at o1
  dsimp only at o1
  go_wp2_with (first | (refine at_load_rs11 rfl _ rfl _ rfl y0 rfl ?_) | (refine at_store_rs11 rfl _ _ rfl _ rfl rfl y1 rfl rfl o1 ?_))
  obtain ⟨q0, q1, q2, q3, q4⟩ := five_atK EE.out.1
  refine bodyPost_ret (v := .agg #[.int .u8 s.reg, .int .i64 s.host, .int .i64 r, .int .i64 s.burst, .int .i64 s.next]) ?_ rfl ?_
  · simp [results, Tryz.results70, go_sem, q0, q1, q2, q3, q4]
  · exact ⟨rfl, EE.out.2⟩
set_option maxRecDepth 100000 in
set_option maxHeartbeats 3200000 in
theorem gburst1 (s : Rs) (r : Int) (bn : Nat) (w : World) (hn : w.heap[bn]? = some (.cells #[.int .i64 r] 3 (0, 0))) :
    Calls Tryz.prog 23 #[s.val, .pointer (some ⟨bn, 0, none⟩)] w fun e w' => e = .returned (Rs.mk s.reg s.host s.peer r s.next).val ∧ Below w.heap.size w w' := by
  have hA : Below w.heap.size w ((w.alloc (.cells #[.int .u8 s.reg, .int .i64 s.host, .int .i64 s.peer, .int .i64 s.burst, .int .i64 s.next] 27)).alloc (.cells rsZ 27)) := ((Below.refl _ _).alloc (Nat.le_refl _) _).alloc (by simp) _
  have z0 : ((w.alloc (.cells #[.int .u8 s.reg, .int .i64 s.host, .int .i64 s.peer, .int .i64 s.burst, .int .i64 s.next] 27)).alloc (.cells rsZ 27)).heap[w.heap.size]? = some (.cells #[.int .u8 s.reg, .int .i64 s.host, .int .i64 s.peer, .int .i64 s.burst, .int .i64 s.next] 27 (0, 0)) := laid _ (heap_alloc_new w _)
  have z1 : ((w.alloc (.cells #[.int .u8 s.reg, .int .i64 s.host, .int .i64 s.peer, .int .i64 s.burst, .int .i64 s.next] 27)).alloc (.cells rsZ 27)).heap[w.heap.size + 1]? = some (.cells rsZ 27 (0, 0)) := by
    have := heap_alloc_new (w.alloc (.cells #[.int .u8 s.reg, .int .i64 s.host, .int .i64 s.peer, .int .i64 s.burst, .int .i64 s.next] 27)) (.cells rsZ 27)
    rwa [World.size_alloc] at this
  have n0 : ((w.alloc (.cells #[.int .u8 s.reg, .int .i64 s.host, .int .i64 s.peer, .int .i64 s.burst, .int .i64 s.next] 27)).alloc (.cells rsZ 27)).cell? ⟨bn, 0, none⟩ = some (.int .i64 r) := cell_of_one (laid _ (laid _ hn))
  clear hn
  have HA := Lib.hid (And.intro z0 (And.intro z1 hA))
  unfold Pm.val Rs.val rsZ at *
  dsimp only at *
  go_enter Tryz.func23, Tryz.ntmps23
  go_upto_region 1 with fail
  generalize ((w.alloc (.cells #[.int .u8 s.reg, .int .i64 s.host, .int .i64 s.peer, .int .i64 s.burst, .int .i64 s.next] 27)).alloc (.cells #[.int .u8 0, .int .i64 0, .int .i64 0, .int .i64 0, .int .i64 0] 27)) = w2 at *
  have hBw := hA
  have y0 : (w2.setCell ⟨w.heap.size, 3, none⟩ (.int .i64 r)).heap[w.heap.size]? = some (.cells #[.int .u8 s.reg, .int .i64 s.host, .int .i64 s.peer, .int .i64 r, .int .i64 s.next] 27 (0, 0)) := block_set 3 (.int .i64 r) z0
  have y1 := (block_far 3 (.int .i64 r) (show w.heap.size + 1 ≠ w.heap.size by omega)).trans z1
  have hBy := hBw.setCell (p := ⟨w.heap.size, 3, none⟩) (Nat.le_refl _) (.int .i64 r)
  have E1 := setRow_heap (w2.setCell ⟨w.heap.size, 3, none⟩ (.int .i64 r)) (w.heap.size + 1) _ #[.int .u8 s.reg, .int .i64 s.host, .int .i64 s.peer, .int .i64 r, .int .i64 s.next] _ _ y1
  have EB := below_setRow hBy (show w.heap.size ≤ w.heap.size + 1 by omega) #[.int .u8 s.reg, .int .i64 s.host, .int .i64 s.peer, .int .i64 r, .int .i64 s.next]
  have EE := Lib.hid (And.intro E1 EB)
  obtain ⟨a0, a1, a2, a3, a4⟩ := five_atK z0
  have fz := bc_frozenK z0
  have o1 := rs_one (Rs.mk s.reg s.host s.peer r s.next)
  clear E1 EB hBy z0 z1 hBw
  unfold rsC at o1
  dsimp only at o1
  go_wp2_with (first | (refine at_load_rs11 rfl _ rfl _ rfl y0 rfl ?_) | (refine at_store_rs11 rfl _ _ rfl _ rfl rfl y1 rfl rfl o1 ?_))
  obtain ⟨q0, q1, q2, q3, q4⟩ := five_atK EE.out.1
  refine bodyPost_ret (v := .agg #[.int .u8 s.reg, .int .i64 s.host, .int .i64 s.peer, .int .i64 r, .int .i64 s.next]) ?_ rfl ?_
  · simp [results, Tryz.results23, go_sem, q0, q1, q2, q3, q4]
  · exact ⟨rfl, EE.out.2⟩
set_option maxRecDepth 100000 in
set_option maxHeartbeats 3200000 in
theorem gpause1 (s : Rs) (now r : Int) (bn bt bx k cap : Nat) (w : World) (hn : w.heap[bn]? = some (.cells #[.int .i64 now] 2 (0, 0))) (ht : w.heap[bt]? = some (.cells #[.slice (some ⟨bx, 0, none⟩) k cap] 61 (0, 0))) (c : ∀ w1 : World, Below w.heap.size w w1 → Calls Tryz.prog 25 #[.int .i64 now, .slice (some ⟨bx, 0, none⟩) k cap] w1 fun e w' => e = .returned (.int .i64 r) ∧ w1 = w') :
    Calls Tryz.prog 24 #[s.val, .pointer (some ⟨bn, 0, none⟩), .pointer (some ⟨bt, 0, none⟩)] w fun e w' => e = .returned (Rs.mk s.reg s.host s.peer s.burst r).val ∧ Below w.heap.size w w' := by
  have hA : Below w.heap.size w ((w.alloc (.cells #[.int .u8 s.reg, .int .i64 s.host, .int .i64 s.peer, .int .i64 s.burst, .int .i64 s.next] 27)).alloc (.cells rsZ 27)) := ((Below.refl _ _).alloc (Nat.le_refl _) _).alloc (by simp) _
  have z0 : ((w.alloc (.cells #[.int .u8 s.reg, .int .i64 s.host, .int .i64 s.peer, .int .i64 s.burst, .int .i64 s.next] 27)).alloc (.cells rsZ 27)).heap[w.heap.size]? = some (.cells #[.int .u8 s.reg, .int .i64 s.host, .int .i64 s.peer, .int .i64 s.burst, .int .i64 s.next] 27 (0, 0)) := laid _ (heap_alloc_new w _)
  have z1 : ((w.alloc (.cells #[.int .u8 s.reg, .int .i64 s.host, .int .i64 s.peer, .int .i64 s.burst, .int .i64 s.next] 27)).alloc (.cells rsZ 27)).heap[w.heap.size + 1]? = some (.cells rsZ 27 (0, 0)) := by
    have := heap_alloc_new (w.alloc (.cells #[.int .u8 s.reg, .int .i64 s.host, .int .i64 s.peer, .int .i64 s.burst, .int .i64 s.next] 27)) (.cells rsZ 27)
    rwa [World.size_alloc] at this
  have n0 : ((w.alloc (.cells #[.int .u8 s.reg, .int .i64 s.host, .int .i64 s.peer, .int .i64 s.burst, .int .i64 s.next] 27)).alloc (.cells rsZ 27)).cell? ⟨bn, 0, none⟩ = some (.int .i64 now) := cell_of_one (laid _ (laid _ hn))
  have t0 : ((w.alloc (.cells #[.int .u8 s.reg, .int .i64 s.host, .int .i64 s.peer, .int .i64 s.burst, .int .i64 s.next] 27)).alloc (.cells rsZ 27)).cell? ⟨bt, 0, none⟩ = some (.slice (some ⟨bx, 0, none⟩) k cap) := cell_of_one (laid _ (laid _ ht))
  have c := c _ hA
  clear hn ht
  have HA := Lib.hid (And.intro z0 (And.intro z1 hA))
  clear z0 z1 hA
  unfold Pm.val Rs.val rsZ at *
  dsimp only at *
  go_enter Tryz.func24, Tryz.ntmps24
  go_upto_region 1 with fail
  generalize ((w.alloc (.cells #[.int .u8 s.reg, .int .i64 s.host, .int .i64 s.peer, .int .i64 s.burst, .int .i64 s.next] 27)).alloc (.cells #[.int .u8 0, .int .i64 0, .int .i64 0, .int .i64 0, .int .i64 0] 27)) = w2 at *
  go_wp2_with fail
  (with_reducible refine (c).mono ?_)
  rintro e w3 ⟨rfl, rfl⟩
  clear n0 t0
  have hB := Below.refl w2.heap.size w2
  have z0 := kept HA.out.1 hB
  have z1 := kept HA.out.2.1 hB
  have hBw := HA.out.2.2.trans (hB.mono HA.out.2.2.size)
  have y0 : (w2.setCell ⟨w.heap.size, 4, none⟩ (.int .i64 r)).heap[w.heap.size]? = some (.cells #[.int .u8 s.reg, .int .i64 s.host, .int .i64 s.peer, .int .i64 s.burst, .int .i64 r] 27 (0, 0)) := block_set 4 (.int .i64 r) z0
  have y1 := (block_far 4 (.int .i64 r) (show w.heap.size + 1 ≠ w.heap.size by omega)).trans z1
  have hBy := hBw.setCell (p := ⟨w.heap.size, 4, none⟩) (Nat.le_refl _) (.int .i64 r)
  have E1 := setRow_heap (w2.setCell ⟨w.heap.size, 4, none⟩ (.int .i64 r)) (w.heap.size + 1) _ #[.int .u8 s.reg, .int .i64 s.host, .int .i64 s.peer, .int .i64 s.burst, .int .i64 r] _ _ y1
  have EB := below_setRow hBy (show w.heap.size ≤ w.heap.size + 1 by omega) #[.int .u8 s.reg, .int .i64 s.host, .int .i64 s.peer, .int .i64 s.burst, .int .i64 r]
  have EE := Lib.hid (And.intro E1 EB)
  obtain ⟨a0, a1, a2, a3, a4⟩ := five_atK z0
  have fz := bc_frozenK z0
  have o1 := rs_one (Rs.mk s.reg s.host s.peer s.burst r)
  clear E1 EB hBy z0 z1 hBw
  unfold rsC at o1
  dsimp only at o1
  go_wp2_with (first | (refine at_load_rs11 rfl _ rfl _ rfl y0 rfl ?_) | (refine at_store_rs11 rfl _ _ rfl _ rfl rfl y1 rfl rfl o1 ?_))
  obtain ⟨q0, q1, q2, q3, q4⟩ := five_atK EE.out.1
  refine bodyPost_ret (v := .agg #[.int .u8 s.reg, .int .i64 s.host, .int .i64 s.peer, .int .i64 s.burst, .int .i64 r]) ?_ rfl ?_
  · simp [results, Tryz.results24, go_sem, q0, q1, q2, q3, q4]
  · exact ⟨rfl, EE.out.2⟩
set_option maxRecDepth 100000 in
set_option maxHeartbeats 3200000 in
theorem ghosting (p : Pm) (n : Int) (w : World) :
    Calls Tryz.prog 27 #[p.val, .int .i64 n] w fun e w' => e = .returned (.func (.func 68) #[] #[.pointer (some ⟨w.heap.size, 0, none⟩), .pointer (some ⟨w.heap.size + 1, 0, none⟩)]) ∧ w'.heap[w.heap.size]? = some (.cells (pmC p) 24 (0, 0)) ∧ w'.heap[w.heap.size + 1]? = some (.cells #[.int .i64 n] 3 (0, 0)) ∧ Below w.heap.size w w' := by
  (try unfold pmC)
  (try unfold Pm.val)
  go_enter Tryz.func27, Tryz.ntmps27
  go_wp2_with fail
  go_ret
  exact ⟨rfl, (laid _ (heap_alloc_new w (.cells (pmC p) 24))), (by have := heap_alloc_new (w.alloc (.cells (pmC p) 24)) (.cells #[.int .i64 n] 3); simpa [World.size_alloc] using this), ((Below.refl _ _).alloc (Nat.le_refl _) _).alloc (by simp) _⟩
set_option maxRecDepth 100000 in
set_option maxHeartbeats 3200000 in
theorem gpeering (p : Pm) (n : Int) (w : World) :
    Calls Tryz.prog 33 #[p.val, .int .i64 n] w fun e w' => e = .returned (.func (.func 70) #[] #[.pointer (some ⟨w.heap.size, 0, none⟩), .pointer (some ⟨w.heap.size + 1, 0, none⟩)]) ∧ w'.heap[w.heap.size]? = some (.cells (pmC p) 24 (0, 0)) ∧ w'.heap[w.heap.size + 1]? = some (.cells #[.int .i64 n] 3 (0, 0)) ∧ Below w.heap.size w w' := by
  (try unfold pmC)
  (try unfold Pm.val)
  go_enter Tryz.func33, Tryz.ntmps33
  go_wp2_with fail
  go_ret
  exact ⟨rfl, (laid _ (heap_alloc_new w (.cells (pmC p) 24))), (by have := heap_alloc_new (w.alloc (.cells (pmC p) 24)) (.cells #[.int .i64 n] 3); simpa [World.size_alloc] using this), ((Below.refl _ _).alloc (Nat.le_refl _) _).alloc (by simp) _⟩
set_option maxRecDepth 100000 in
set_option maxHeartbeats 3200000 in
theorem gbursting (n : Int) (w : World) :
    Calls Tryz.prog 12 #[.int .i64 n] w fun e w' => e = .returned (.func (.func 23) #[] #[.pointer (some ⟨w.heap.size, 0, none⟩)]) ∧ w'.heap[w.heap.size]? = some (.cells #[.int .i64 n] 3 (0, 0)) ∧ Below w.heap.size w w' := by
  (try unfold pmC)
  (try unfold Pm.val)
  go_enter Tryz.func12, Tryz.ntmps12
  go_wp2_with fail
  go_ret
  exact ⟨rfl, (heap_alloc_new w (.cells #[.int .i64 n] 3)), (Below.refl _ _).alloc (Nat.le_refl _) _⟩
set_option maxRecDepth 100000 in
set_option maxHeartbeats 3200000 in
theorem gdoubting (p : Pm) (w : World) :
    Calls Tryz.prog 14 #[p.val] w fun e w' => e = .returned (.func (.func 26) #[] #[.pointer (some ⟨w.heap.size, 0, none⟩)]) ∧ w'.heap[w.heap.size]? = some (.cells (pmC p) 24 (0, 0)) ∧ Below w.heap.size w w' := by
  (try unfold pmC)
  (try unfold Pm.val)
  go_enter Tryz.func14, Tryz.ntmps14
  go_wp2_with fail
  go_ret
  exact ⟨rfl, (heap_alloc_new w (.cells (pmC p) 24)), (Below.refl _ _).alloc (Nat.le_refl _) _⟩
set_option maxRecDepth 100000 in
set_option maxHeartbeats 3200000 in
theorem gpausing (now : Int) (bx k cap : Nat) (w : World) :
    Calls Tryz.prog 13 #[.int .i64 now, .slice (some ⟨bx, 0, none⟩) k cap] w fun e w' => e = .returned (.func (.func 24) #[] #[.pointer (some ⟨w.heap.size, 0, none⟩), .pointer (some ⟨w.heap.size + 1, 0, none⟩)]) ∧ w'.heap[w.heap.size]? = some (.cells #[.int .i64 now] 2 (0, 0)) ∧ w'.heap[w.heap.size + 1]? = some (.cells #[.slice (some ⟨bx, 0, none⟩) k cap] 61 (0, 0)) ∧ Below w.heap.size w w' := by
  (try unfold pmC)
  (try unfold Pm.val)
  go_enter Tryz.func13, Tryz.ntmps13
  go_wp2_with fail
  go_ret
  exact ⟨rfl, (laid _ (heap_alloc_new w (.cells #[.int .i64 now] 2))), (by have := heap_alloc_new (w.alloc (.cells #[.int .i64 now] 2)) (.cells #[.slice (some ⟨bx, 0, none⟩) k cap] 61); simpa [World.size_alloc] using this), ((Below.refl _ _).alloc (Nat.le_refl _) _).alloc (by simp) _⟩
set_option maxRecDepth 100000 in
set_option maxHeartbeats 3200000 in
theorem gwaiting (p : Pm) (now draw : Int) (w : World) :
    Calls Tryz.prog 15 #[p.val, .int .i64 now, .int .u32 draw] w fun e w' => e = .returned (.func (.func 29) #[] #[.pointer (some ⟨w.heap.size, 0, none⟩), .pointer (some ⟨w.heap.size + 1, 0, none⟩), .pointer (some ⟨w.heap.size + 2, 0, none⟩)]) ∧ w'.heap[w.heap.size]? = some (.cells (pmC p) 24 (0, 0)) ∧ w'.heap[w.heap.size + 1]? = some (.cells #[.int .i64 now] 2 (0, 0)) ∧ w'.heap[w.heap.size + 2]? = some (.cells #[.int .u32 draw] 22 (0, 0)) ∧ Below w.heap.size w w' := by
  (try unfold pmC)
  (try unfold Pm.val)
  go_enter Tryz.func15, Tryz.ntmps15
  go_wp2_with fail
  go_ret
  exact ⟨rfl, (laid _ (laid _ (heap_alloc_new w (.cells (pmC p) 24)))), (laid _ (by have := heap_alloc_new (w.alloc (.cells (pmC p) 24)) (.cells #[.int .i64 now] 2); simpa [World.size_alloc] using this)), (by have := heap_alloc_new ((w.alloc (.cells (pmC p) 24)).alloc (.cells #[.int .i64 now] 2)) (.cells #[.int .u32 draw] 22); simpa [World.size_alloc] using this), (((Below.refl _ _).alloc (Nat.le_refl _) _).alloc (by simp) _).alloc (by simp; omega) _⟩
end Go.Proofs.YtfangllkfcmefaaGreat.W
