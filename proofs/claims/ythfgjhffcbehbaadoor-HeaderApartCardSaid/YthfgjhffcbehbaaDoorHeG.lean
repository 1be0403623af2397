/- Layer 5's own code, walked: a header out of bytes; questions; references. -/
import Derived.Test.YthfgjhffcbehbaaDoorHeF
import Derived.Test.YthfgjhffcbehbaaDoorHeD
import Derived.Test.YthfgjhffcbehbaaDoorHdF
import Derived.WalkKit

namespace Go.Proofs.YthfgjhffcbehbaaDoor.W
open Go.RowKit
set_option linter.unusedVariables false
set_option linter.unusedSimpArgs false
theorem may_of_dec (l : List UInt8) (h : 48 ≤ l.length) : (decH l).may = !decide ((decH l).ver < 1 ∨ 4 < (decH l).ver) := by
  obtain ⟨t, b⟩ := dec_typed l h
  by_cases hv : (decH l).ver < 1 ∨ 4 < (decH l).ver
  · rw [decide_eq_true hv]
    cases hm : (decH l).may
    · rfl
    · have f := (Hd.may_fit hm).ver
      omega
  · rw [decide_eq_false hv]
    exact Hd.Fit.may ⟨by omega, by omega, by omega, by omega, by omega, by omega⟩
set_option maxHeartbeats 6400000 in
set_option maxRecDepth 20000 in
theorem hdec_any (l : List UInt8) (hl : (l.length : Int) ≤ 4611686018427387904) (w : World) (L : Laid w) :
    Calls Tryd.prog 13 #[.string (bs l)] w fun e w' => e = .returned (.tuple #[(decV l).val, .string (bs (decR l)), .int .i64 (decE l)]) ∧ Below w.heap.size w w' := by
  by_cases h48 : l.length < 48
  · have e1 : decE l = 50 := by unfold decE; rw [if_pos h48]
    have e2 : decV l = Hd.zero := by unfold decV; rw [e1]; rfl
    have e3 : decR l = [] := by unfold decR; rw [e1]; rfl
    rw [e1, e2, e3]
    clear e1 e2 e3
    go_enter Tryd.func13, Tryd.ntmps13
    go_wp2_with fail
    exact bodyPost_ret (v := .tuple #[Hd.zero.val, .string (bs []), .int .i64 50]) (by simp [results, Tryd.results13, go_sem, Hd.zero, Hd.val, bs]) rfl ⟨rfl, by repeat' (first | (with_reducible exact Below.refl _ _) | (with_reducible assumption) | (with_reducible refine below_drewN ?_ _) | (with_reducible refine Below.drew ?_) | (with_reducible refine Below.setCell ?_ ?_ _) | (with_reducible refine Below.alloc ?_ ?_ _) | (simp; done) | (simp; omega) | omega)⟩
  · have h48' : 48 ≤ l.length := by omega
    have hz : ¬ ((bs l).size : Int) < 48 := by rw [bs_size]; omega
    have c := taken_any l h48' (by omega)
    have cm := fun w L => hmay_any (decH l) w L
    have hm := may_of_dec l h48'
    by_cases hv : (decH l).ver < 1 ∨ 4 < (decH l).ver
    · have e1 : decE l = 51 := by unfold decE; rw [if_neg h48]; exact if_pos hv
      have e2 : decV l = Hd.zero := by unfold decV; rw [e1]; rfl
      have e3 : decR l = [] := by unfold decR; rw [e1]; rfl
      rw [decide_eq_true hv] at hm
      rw [hm] at cm
      rw [e1, e2, e3]
      clear e1 e2 e3 hm hv h48 h48' hl
      generalize bs (l.drop 48) = R at *
      generalize bs l = S at *
      obtain ⟨h, hh⟩ : ∃ h, decH l = h := ⟨_, rfl⟩
      rw [hh] at c cm
      clear hh
      unfold Hd.val at *
      go_enter Tryd.func13, Tryd.ntmps13
      go_wp2_with fail
      (with_reducible refine (c _).mono ?_)
      rintro e w1 ⟨rfl, b1⟩
      have z1 : w1.heap[w.heap.size]? = some (.cells #[.int .i64 0, .int .i64 0, .int .i64 0, .int .i64 0, .int .i64 0, .int .i64 0, .int .u32 0, .int .u32 0, .int .u32 0, .int .u64 0, .int .u64 0, .int .u64 0, .int .u64 0] 25 (0, 0)) := by rw [b1.block _ (by simp)]; exact heap_new _ _ rfl
      have B1 := below_in b1
      have hs1 : w.heap.size < w1.heap.size := lt_of_block z1
      have B1' : Below w.heap.size w (w1.alloc (.cells #[.int .i64 h.leap, .int .i64 h.ver, .int .i64 h.mode, .int .i64 h.str, .int .i64 h.poll, .int .i64 h.prec, .int .u32 h.rdel, .int .u32 h.rdis, .int .u32 h.ref, .int .u64 h.reft, .int .u64 h.org, .int .u64 h.rcv, .int .u64 h.tx] 25)) := Below.alloc B1 (Nat.le_of_lt hs1) _
      have L1 := L.kept B1'
      go_wp2_with fail
      (with_reducible refine (cm _ L1).mono ?_)
      rintro e w2 ⟨rfl, b2⟩
      have z2 : w2.heap[w.heap.size]? = some (.cells #[.int .i64 0, .int .i64 0, .int .i64 0, .int .i64 0, .int .i64 0, .int .i64 0, .int .u32 0, .int .u32 0, .int .u32 0, .int .u64 0, .int .u64 0, .int .u64 0, .int .u64 0] 25 (0, 0)) := by rw [b2.block _ (by simp; omega), Below.heap_alloc _ _ _ hs1]; exact z1
      have y2 : w2.heap[w1.heap.size]? = some (.cells #[.int .i64 h.leap, .int .i64 h.ver, .int .i64 h.mode, .int .i64 h.str, .int .i64 h.poll, .int .i64 h.prec, .int .u32 h.rdel, .int .u32 h.rdis, .int .u32 h.ref, .int .u64 h.reft, .int .u64 h.org, .int .u64 h.rcv, .int .u64 h.tx] 25 (0, 0)) := by rw [b2.block _ (by simp)]; exact heap_new _ _ rfl
      have B2 := B1'.trans (b2.mono B1'.size)
      obtain ⟨B, hB⟩ : ∃ B, w1.heap.size = B := ⟨_, rfl⟩
      rw [hB] at y2 hs1
      clear z1 B1 B1' b1 b2 L1 L c cm
      have r0_ := (blk_at z2 0 (by simp)).1
      have q0_ := (blk_at z2 0 (by simp)).2
      have r1_ := (blk_at z2 1 (by simp)).1
      have q1_ := (blk_at z2 1 (by simp)).2
      have r2_ := (blk_at z2 2 (by simp)).1
      have q2_ := (blk_at z2 2 (by simp)).2
      have r3_ := (blk_at z2 3 (by simp)).1
      have q3_ := (blk_at z2 3 (by simp)).2
      have r4_ := (blk_at z2 4 (by simp)).1
      have q4_ := (blk_at z2 4 (by simp)).2
      have r5_ := (blk_at z2 5 (by simp)).1
      have q5_ := (blk_at z2 5 (by simp)).2
      have r6_ := (blk_at z2 6 (by simp)).1
      have q6_ := (blk_at z2 6 (by simp)).2
      have r7_ := (blk_at z2 7 (by simp)).1
      have q7_ := (blk_at z2 7 (by simp)).2
      have r8_ := (blk_at z2 8 (by simp)).1
      have q8_ := (blk_at z2 8 (by simp)).2
      have r9_ := (blk_at z2 9 (by simp)).1
      have q9_ := (blk_at z2 9 (by simp)).2
      have r10_ := (blk_at z2 10 (by simp)).1
      have q10_ := (blk_at z2 10 (by simp)).2
      have r11_ := (blk_at z2 11 (by simp)).1
      have q11_ := (blk_at z2 11 (by simp)).2
      have r12_ := (blk_at z2 12 (by simp)).1
      have q12_ := (blk_at z2 12 (by simp)).2
      simp only [List.getElem_toArray, List.getElem_cons_zero, List.getElem_cons_succ] at r0_ r1_ r2_ r3_ r4_ r5_ r6_ r7_ r8_ r9_ r10_ r11_ r12_
      have hsz := B2.size
      have ZZ2 := Lib.hid z2
      clear z2 y2
      go_wp2_with fail
      have b8 : (((((((((((((w2.setCell ⟨w.heap.size, 0, none⟩ (.int .i64 0)).setCell ⟨w.heap.size, 1, none⟩ (.int .i64 0)).setCell ⟨w.heap.size, 2, none⟩ (.int .i64 0)).setCell ⟨w.heap.size, 3, none⟩ (.int .i64 0)).setCell ⟨w.heap.size, 4, none⟩ (.int .i64 0)).setCell ⟨w.heap.size, 5, none⟩ (.int .i64 0)).setCell ⟨w.heap.size, 6, none⟩ (.int .u32 0)).setCell ⟨w.heap.size, 7, none⟩ (.int .u32 0)).setCell ⟨w.heap.size, 8, none⟩ (.int .u32 0)).setCell ⟨w.heap.size, 9, none⟩ (.int .u64 0)).setCell ⟨w.heap.size, 10, none⟩ (.int .u64 0)).setCell ⟨w.heap.size, 11, none⟩ (.int .u64 0)).setCell ⟨w.heap.size, 12, none⟩ (.int .u64 0)).heap[w.heap.size]? = some (.cells #[.int .i64 0, .int .i64 0, .int .i64 0, .int .i64 0, .int .i64 0, .int .i64 0, .int .u32 0, .int .u32 0, .int .u32 0, .int .u64 0, .int .u64 0, .int .u64 0, .int .u64 0] 25 (0, 0)) := blk_fill _ _ _ _ _ _ _ _ _ _ _ _ _ _ _ _ _ _ _ _ _ _ _ _ _ _ _ _ _ ZZ2.out
      have B8 : Below w.heap.size w (((((((((((((w2.setCell ⟨w.heap.size, 0, none⟩ (.int .i64 0)).setCell ⟨w.heap.size, 1, none⟩ (.int .i64 0)).setCell ⟨w.heap.size, 2, none⟩ (.int .i64 0)).setCell ⟨w.heap.size, 3, none⟩ (.int .i64 0)).setCell ⟨w.heap.size, 4, none⟩ (.int .i64 0)).setCell ⟨w.heap.size, 5, none⟩ (.int .i64 0)).setCell ⟨w.heap.size, 6, none⟩ (.int .u32 0)).setCell ⟨w.heap.size, 7, none⟩ (.int .u32 0)).setCell ⟨w.heap.size, 8, none⟩ (.int .u32 0)).setCell ⟨w.heap.size, 9, none⟩ (.int .u64 0)).setCell ⟨w.heap.size, 10, none⟩ (.int .u64 0)).setCell ⟨w.heap.size, 11, none⟩ (.int .u64 0)).setCell ⟨w.heap.size, 12, none⟩ (.int .u64 0)) := Below.setCell (Below.setCell (Below.setCell (Below.setCell (Below.setCell (Below.setCell (Below.setCell (Below.setCell (Below.setCell (Below.setCell (Below.setCell (Below.setCell (Below.setCell (B2) (Nat.le_refl _) _) (Nat.le_refl _) _) (Nat.le_refl _) _) (Nat.le_refl _) _) (Nat.le_refl _) _) (Nat.le_refl _) _) (Nat.le_refl _) _) (Nat.le_refl _) _) (Nat.le_refl _) _) (Nat.le_refl _) _) (Nat.le_refl _) _) (Nat.le_refl _) _) (Nat.le_refl _) _
      generalize (((((((((((((w2.setCell ⟨w.heap.size, 0, none⟩ (.int .i64 0)).setCell ⟨w.heap.size, 1, none⟩ (.int .i64 0)).setCell ⟨w.heap.size, 2, none⟩ (.int .i64 0)).setCell ⟨w.heap.size, 3, none⟩ (.int .i64 0)).setCell ⟨w.heap.size, 4, none⟩ (.int .i64 0)).setCell ⟨w.heap.size, 5, none⟩ (.int .i64 0)).setCell ⟨w.heap.size, 6, none⟩ (.int .u32 0)).setCell ⟨w.heap.size, 7, none⟩ (.int .u32 0)).setCell ⟨w.heap.size, 8, none⟩ (.int .u32 0)).setCell ⟨w.heap.size, 9, none⟩ (.int .u64 0)).setCell ⟨w.heap.size, 10, none⟩ (.int .u64 0)).setCell ⟨w.heap.size, 11, none⟩ (.int .u64 0)).setCell ⟨w.heap.size, 12, none⟩ (.int .u64 0)) = W8 at *
      have d0_ := (blk_at b8 0 (by simp)).1
      have d1_ := (blk_at b8 1 (by simp)).1
      have d2_ := (blk_at b8 2 (by simp)).1
      have d3_ := (blk_at b8 3 (by simp)).1
      have d4_ := (blk_at b8 4 (by simp)).1
      have d5_ := (blk_at b8 5 (by simp)).1
      have d6_ := (blk_at b8 6 (by simp)).1
      have d7_ := (blk_at b8 7 (by simp)).1
      have d8_ := (blk_at b8 8 (by simp)).1
      have d9_ := (blk_at b8 9 (by simp)).1
      have d10_ := (blk_at b8 10 (by simp)).1
      have d11_ := (blk_at b8 11 (by simp)).1
      have d12_ := (blk_at b8 12 (by simp)).1
      simp only [List.getElem_toArray, List.getElem_cons_zero, List.getElem_cons_succ] at d0_ d1_ d2_ d3_ d4_ d5_ d6_ d7_ d8_ d9_ d10_ d11_ d12_
      clear r0_ q0_ r1_ q1_ r2_ q2_ r3_ q3_ r4_ q4_ r5_ q5_ r6_ q6_ r7_ q7_ r8_ q8_ r9_ q9_ r10_ q10_ r11_ q11_ r12_ q12_ b8 ZZ2 B2 hsz
      refine bodyPost_ret (v := .tuple #[.agg #[.int .i64 0, .int .i64 0, .int .i64 0, .int .i64 0, .int .i64 0, .int .i64 0, .int .u32 0, .int .u32 0, .int .u32 0, .int .u64 0, .int .u64 0, .int .u64 0, .int .u64 0], .string (bs []), .int .i64 51]) ?_ rfl ⟨rfl, B8⟩
      simp [results, Tryd.results13, go_sem, *, bs]
    · have e1 : decE l = 0 := by unfold decE; rw [if_neg h48]; exact if_neg hv
      have e2 : decV l = decH l := by unfold decV; rw [if_pos e1]
      have e3 : decR l = l.drop 48 := by unfold decR; rw [if_pos e1]
      rw [decide_eq_false hv] at hm
      rw [hm] at cm
      rw [e1, e2, e3]
      clear e1 e2 e3 hm hv h48 h48' hl
      generalize bs (l.drop 48) = R at *
      generalize bs l = S at *
      obtain ⟨h, hh⟩ : ∃ h, decH l = h := ⟨_, rfl⟩
      rw [hh] at c cm ⊢
      clear hh
      unfold Hd.val at *
      go_enter Tryd.func13, Tryd.ntmps13
      go_wp2_with fail
      (with_reducible refine (c _).mono ?_)
      rintro e w1 ⟨rfl, b1⟩
      have z1 : w1.heap[w.heap.size]? = some (.cells #[.int .i64 0, .int .i64 0, .int .i64 0, .int .i64 0, .int .i64 0, .int .i64 0, .int .u32 0, .int .u32 0, .int .u32 0, .int .u64 0, .int .u64 0, .int .u64 0, .int .u64 0] 25 (0, 0)) := by rw [b1.block _ (by simp)]; exact heap_new _ _ rfl
      have B1 := below_in b1
      have hs1 : w.heap.size < w1.heap.size := lt_of_block z1
      have B1' : Below w.heap.size w (w1.alloc (.cells #[.int .i64 h.leap, .int .i64 h.ver, .int .i64 h.mode, .int .i64 h.str, .int .i64 h.poll, .int .i64 h.prec, .int .u32 h.rdel, .int .u32 h.rdis, .int .u32 h.ref, .int .u64 h.reft, .int .u64 h.org, .int .u64 h.rcv, .int .u64 h.tx] 25)) := Below.alloc B1 (Nat.le_of_lt hs1) _
      have L1 := L.kept B1'
      go_wp2_with fail
      (with_reducible refine (cm _ L1).mono ?_)
      rintro e w2 ⟨rfl, b2⟩
      have z2 : w2.heap[w.heap.size]? = some (.cells #[.int .i64 0, .int .i64 0, .int .i64 0, .int .i64 0, .int .i64 0, .int .i64 0, .int .u32 0, .int .u32 0, .int .u32 0, .int .u64 0, .int .u64 0, .int .u64 0, .int .u64 0] 25 (0, 0)) := by rw [b2.block _ (by simp; omega), Below.heap_alloc _ _ _ hs1]; exact z1
      have y2 : w2.heap[w1.heap.size]? = some (.cells #[.int .i64 h.leap, .int .i64 h.ver, .int .i64 h.mode, .int .i64 h.str, .int .i64 h.poll, .int .i64 h.prec, .int .u32 h.rdel, .int .u32 h.rdis, .int .u32 h.ref, .int .u64 h.reft, .int .u64 h.org, .int .u64 h.rcv, .int .u64 h.tx] 25 (0, 0)) := by rw [b2.block _ (by simp)]; exact heap_new _ _ rfl
      have B2 := B1'.trans (b2.mono B1'.size)
      obtain ⟨B, hB⟩ : ∃ B, w1.heap.size = B := ⟨_, rfl⟩
      rw [hB] at y2 hs1
      clear z1 B1 B1' b1 b2 L1 L c cm
      have r0_ := (blk_at z2 0 (by simp)).1
      have q0_ := (blk_at z2 0 (by simp)).2
      have r1_ := (blk_at z2 1 (by simp)).1
      have q1_ := (blk_at z2 1 (by simp)).2
      have r2_ := (blk_at z2 2 (by simp)).1
      have q2_ := (blk_at z2 2 (by simp)).2
      have r3_ := (blk_at z2 3 (by simp)).1
      have q3_ := (blk_at z2 3 (by simp)).2
      have r4_ := (blk_at z2 4 (by simp)).1
      have q4_ := (blk_at z2 4 (by simp)).2
      have r5_ := (blk_at z2 5 (by simp)).1
      have q5_ := (blk_at z2 5 (by simp)).2
      have r6_ := (blk_at z2 6 (by simp)).1
      have q6_ := (blk_at z2 6 (by simp)).2
      have r7_ := (blk_at z2 7 (by simp)).1
      have q7_ := (blk_at z2 7 (by simp)).2
      have r8_ := (blk_at z2 8 (by simp)).1
      have q8_ := (blk_at z2 8 (by simp)).2
      have r9_ := (blk_at z2 9 (by simp)).1
      have q9_ := (blk_at z2 9 (by simp)).2
      have r10_ := (blk_at z2 10 (by simp)).1
      have q10_ := (blk_at z2 10 (by simp)).2
      have r11_ := (blk_at z2 11 (by simp)).1
      have q11_ := (blk_at z2 11 (by simp)).2
      have r12_ := (blk_at z2 12 (by simp)).1
      have q12_ := (blk_at z2 12 (by simp)).2
      simp only [List.getElem_toArray, List.getElem_cons_zero, List.getElem_cons_succ] at r0_ r1_ r2_ r3_ r4_ r5_ r6_ r7_ r8_ r9_ r10_ r11_ r12_
      have c0_ := (blk_at y2 0 (by simp)).1
      have c1_ := (blk_at y2 1 (by simp)).1
      have c2_ := (blk_at y2 2 (by simp)).1
      have c3_ := (blk_at y2 3 (by simp)).1
      have c4_ := (blk_at y2 4 (by simp)).1
      have c5_ := (blk_at y2 5 (by simp)).1
      have c6_ := (blk_at y2 6 (by simp)).1
      have c7_ := (blk_at y2 7 (by simp)).1
      have c8_ := (blk_at y2 8 (by simp)).1
      have c9_ := (blk_at y2 9 (by simp)).1
      have c10_ := (blk_at y2 10 (by simp)).1
      have c11_ := (blk_at y2 11 (by simp)).1
      have c12_ := (blk_at y2 12 (by simp)).1
      simp only [List.getElem_toArray, List.getElem_cons_zero, List.getElem_cons_succ] at c0_ c1_ c2_ c3_ c4_ c5_ c6_ c7_ c8_ c9_ c10_ c11_ c12_
      have hsz := B2.size
      have ZZ2 := Lib.hid z2
      clear z2 y2
      go_wp2_with fail
      have b8 : (((((((((((((w2.setCell ⟨w.heap.size, 0, none⟩ (.int .i64 h.leap)).setCell ⟨w.heap.size, 1, none⟩ (.int .i64 h.ver)).setCell ⟨w.heap.size, 2, none⟩ (.int .i64 h.mode)).setCell ⟨w.heap.size, 3, none⟩ (.int .i64 h.str)).setCell ⟨w.heap.size, 4, none⟩ (.int .i64 h.poll)).setCell ⟨w.heap.size, 5, none⟩ (.int .i64 h.prec)).setCell ⟨w.heap.size, 6, none⟩ (.int .u32 h.rdel)).setCell ⟨w.heap.size, 7, none⟩ (.int .u32 h.rdis)).setCell ⟨w.heap.size, 8, none⟩ (.int .u32 h.ref)).setCell ⟨w.heap.size, 9, none⟩ (.int .u64 h.reft)).setCell ⟨w.heap.size, 10, none⟩ (.int .u64 h.org)).setCell ⟨w.heap.size, 11, none⟩ (.int .u64 h.rcv)).setCell ⟨w.heap.size, 12, none⟩ (.int .u64 h.tx)).heap[w.heap.size]? = some (.cells #[.int .i64 h.leap, .int .i64 h.ver, .int .i64 h.mode, .int .i64 h.str, .int .i64 h.poll, .int .i64 h.prec, .int .u32 h.rdel, .int .u32 h.rdis, .int .u32 h.ref, .int .u64 h.reft, .int .u64 h.org, .int .u64 h.rcv, .int .u64 h.tx] 25 (0, 0)) := blk_fill _ _ _ _ _ _ _ _ _ _ _ _ _ _ _ _ _ _ _ _ _ _ _ _ _ _ _ _ _ ZZ2.out
      have B8 : Below w.heap.size w (((((((((((((w2.setCell ⟨w.heap.size, 0, none⟩ (.int .i64 h.leap)).setCell ⟨w.heap.size, 1, none⟩ (.int .i64 h.ver)).setCell ⟨w.heap.size, 2, none⟩ (.int .i64 h.mode)).setCell ⟨w.heap.size, 3, none⟩ (.int .i64 h.str)).setCell ⟨w.heap.size, 4, none⟩ (.int .i64 h.poll)).setCell ⟨w.heap.size, 5, none⟩ (.int .i64 h.prec)).setCell ⟨w.heap.size, 6, none⟩ (.int .u32 h.rdel)).setCell ⟨w.heap.size, 7, none⟩ (.int .u32 h.rdis)).setCell ⟨w.heap.size, 8, none⟩ (.int .u32 h.ref)).setCell ⟨w.heap.size, 9, none⟩ (.int .u64 h.reft)).setCell ⟨w.heap.size, 10, none⟩ (.int .u64 h.org)).setCell ⟨w.heap.size, 11, none⟩ (.int .u64 h.rcv)).setCell ⟨w.heap.size, 12, none⟩ (.int .u64 h.tx)) := Below.setCell (Below.setCell (Below.setCell (Below.setCell (Below.setCell (Below.setCell (Below.setCell (Below.setCell (Below.setCell (Below.setCell (Below.setCell (Below.setCell (Below.setCell (B2) (Nat.le_refl _) _) (Nat.le_refl _) _) (Nat.le_refl _) _) (Nat.le_refl _) _) (Nat.le_refl _) _) (Nat.le_refl _) _) (Nat.le_refl _) _) (Nat.le_refl _) _) (Nat.le_refl _) _) (Nat.le_refl _) _) (Nat.le_refl _) _) (Nat.le_refl _) _) (Nat.le_refl _) _
      generalize (((((((((((((w2.setCell ⟨w.heap.size, 0, none⟩ (.int .i64 h.leap)).setCell ⟨w.heap.size, 1, none⟩ (.int .i64 h.ver)).setCell ⟨w.heap.size, 2, none⟩ (.int .i64 h.mode)).setCell ⟨w.heap.size, 3, none⟩ (.int .i64 h.str)).setCell ⟨w.heap.size, 4, none⟩ (.int .i64 h.poll)).setCell ⟨w.heap.size, 5, none⟩ (.int .i64 h.prec)).setCell ⟨w.heap.size, 6, none⟩ (.int .u32 h.rdel)).setCell ⟨w.heap.size, 7, none⟩ (.int .u32 h.rdis)).setCell ⟨w.heap.size, 8, none⟩ (.int .u32 h.ref)).setCell ⟨w.heap.size, 9, none⟩ (.int .u64 h.reft)).setCell ⟨w.heap.size, 10, none⟩ (.int .u64 h.org)).setCell ⟨w.heap.size, 11, none⟩ (.int .u64 h.rcv)).setCell ⟨w.heap.size, 12, none⟩ (.int .u64 h.tx)) = W8 at *
      have d0_ := (blk_at b8 0 (by simp)).1
      have d1_ := (blk_at b8 1 (by simp)).1
      have d2_ := (blk_at b8 2 (by simp)).1
      have d3_ := (blk_at b8 3 (by simp)).1
      have d4_ := (blk_at b8 4 (by simp)).1
      have d5_ := (blk_at b8 5 (by simp)).1
      have d6_ := (blk_at b8 6 (by simp)).1
      have d7_ := (blk_at b8 7 (by simp)).1
      have d8_ := (blk_at b8 8 (by simp)).1
      have d9_ := (blk_at b8 9 (by simp)).1
      have d10_ := (blk_at b8 10 (by simp)).1
      have d11_ := (blk_at b8 11 (by simp)).1
      have d12_ := (blk_at b8 12 (by simp)).1
      simp only [List.getElem_toArray, List.getElem_cons_zero, List.getElem_cons_succ] at d0_ d1_ d2_ d3_ d4_ d5_ d6_ d7_ d8_ d9_ d10_ d11_ d12_
      clear c0_ r0_ q0_ c1_ r1_ q1_ c2_ r2_ q2_ c3_ r3_ q3_ c4_ r4_ q4_ c5_ r5_ q5_ c6_ r6_ q6_ c7_ r7_ q7_ c8_ r8_ q8_ c9_ r9_ q9_ c10_ r10_ q10_ c11_ r11_ q11_ c12_ r12_ q12_ b8 ZZ2 B2 hsz
      refine bodyPost_ret (v := .tuple #[.agg #[.int .i64 h.leap, .int .i64 h.ver, .int .i64 h.mode, .int .i64 h.str, .int .i64 h.poll, .int .i64 h.prec, .int .u32 h.rdel, .int .u32 h.rdis, .int .u32 h.ref, .int .u64 h.reft, .int .u64 h.org, .int .u64 h.rcv, .int .u64 h.tx], .string R, .int .i64 0]) ?_ rfl ⟨rfl, B8⟩
      simp [results, Tryd.results13, go_sem, *]
end Go.Proofs.YthfgjhffcbehbaaDoor.W
