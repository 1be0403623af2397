/- The document's own answer for a header's bytes, walked. -/
import Derived.Test.YthfgjhffcbehbaaDoorHdI
import Derived.Lib.QuietBelow
import Derived.BigQuiet
import Derived.Deep.DeepCutAuto
import Derived.Deep.RegionHeld3
namespace Go.Proofs.YthfgjhffcbehbaaDoor.W
open Go.RowKit Go.Sort
set_option linter.unusedVariables false
set_option linter.unusedSimpArgs false
theorem heap_new (w : World) (o : Obj) {k : Nat} (h : k = w.heap.size) : (w.alloc o).heap[k]? = some o := by
  subst h
  show (w.heap.push o)[w.heap.size]? = _
  simp
theorem heap_old (w : World) (o o' : Obj) {k : Nat} (h : k = w.heap.size) : ((w.alloc o).alloc o').heap[k]? = some o := by
  subst h
  show ((w.heap.push o).push o')[w.heap.size]? = _
  simp [Array.getElem?_push]
theorem blk_set {w : World} {b : Nat} {C : Array Value} {t : TypeId} {f : Nat × Nat} (j : Nat) (x : Value) (h : w.heap[b]? = some (.cells C t f)) : (w.setCell ⟨b, j, none⟩ x).heap[b]? = some (.cells (C.setIfInBounds j x) t f) := by
  have hlt := lt_of_block h
  have h' : w.heap[b] = .cells C t f := by simpa [Array.getElem?_eq_getElem hlt] using h
  show (w.heap.modify b _)[b]? = _
  rw [Array.getElem?_eq_getElem (by simpa using hlt), Array.getElem_modify_self, h']
  rfl
theorem blk_far {w : World} {b k : Nat} {o : Obj} (j : Nat) (x : Value) (hk : b ≠ k) (h : w.heap[k]? = some o) : (w.setCell ⟨b, j, none⟩ x).heap[k]? = some o := by
  show (w.heap.modify b _)[k]? = _
  rw [Array.getElem?_modify, if_neg hk]
  exact h
theorem drew_heap (w : World) (k : Nat) : w.drew.heap[k]? = w.heap[k]? := rfl
theorem blk_fill (w : World) (b : Nat) (t : TypeId) (v0 v1 v2 v3 v4 v5 v6 v7 v8 v9 v10 v11 v12 z0 z1 z2 z3 z4 z5 z6 z7 z8 z9 z10 z11 z12 : Value) (h : w.heap[b]? = some (.cells #[z0, z1, z2, z3, z4, z5, z6, z7, z8, z9, z10, z11, z12] t (0, 0))) :
    (((((((((((((w.setCell ⟨b, 0, none⟩ (v0)).setCell ⟨b, 1, none⟩ (v1)).setCell ⟨b, 2, none⟩ (v2)).setCell ⟨b, 3, none⟩ (v3)).setCell ⟨b, 4, none⟩ (v4)).setCell ⟨b, 5, none⟩ (v5)).setCell ⟨b, 6, none⟩ (v6)).setCell ⟨b, 7, none⟩ (v7)).setCell ⟨b, 8, none⟩ (v8)).setCell ⟨b, 9, none⟩ (v9)).setCell ⟨b, 10, none⟩ (v10)).setCell ⟨b, 11, none⟩ (v11)).setCell ⟨b, 12, none⟩ (v12)).heap[b]? = some (.cells #[v0, v1, v2, v3, v4, v5, v6, v7, v8, v9, v10, v11, v12] t (0, 0)) := by
  have h0 : (w.setCell ⟨b, 0, none⟩ (v0)).heap[b]? = some (.cells #[v0, z1, z2, z3, z4, z5, z6, z7, z8, z9, z10, z11, z12] t (0, 0)) := blk_set 0 v0 h
  have h1 : ((w.setCell ⟨b, 0, none⟩ (v0)).setCell ⟨b, 1, none⟩ (v1)).heap[b]? = some (.cells #[v0, v1, z2, z3, z4, z5, z6, z7, z8, z9, z10, z11, z12] t (0, 0)) := blk_set 1 v1 h0
  have h2 : (((w.setCell ⟨b, 0, none⟩ (v0)).setCell ⟨b, 1, none⟩ (v1)).setCell ⟨b, 2, none⟩ (v2)).heap[b]? = some (.cells #[v0, v1, v2, z3, z4, z5, z6, z7, z8, z9, z10, z11, z12] t (0, 0)) := blk_set 2 v2 h1
  have h3 : ((((w.setCell ⟨b, 0, none⟩ (v0)).setCell ⟨b, 1, none⟩ (v1)).setCell ⟨b, 2, none⟩ (v2)).setCell ⟨b, 3, none⟩ (v3)).heap[b]? = some (.cells #[v0, v1, v2, v3, z4, z5, z6, z7, z8, z9, z10, z11, z12] t (0, 0)) := blk_set 3 v3 h2
  have h4 : (((((w.setCell ⟨b, 0, none⟩ (v0)).setCell ⟨b, 1, none⟩ (v1)).setCell ⟨b, 2, none⟩ (v2)).setCell ⟨b, 3, none⟩ (v3)).setCell ⟨b, 4, none⟩ (v4)).heap[b]? = some (.cells #[v0, v1, v2, v3, v4, z5, z6, z7, z8, z9, z10, z11, z12] t (0, 0)) := blk_set 4 v4 h3
  have h5 : ((((((w.setCell ⟨b, 0, none⟩ (v0)).setCell ⟨b, 1, none⟩ (v1)).setCell ⟨b, 2, none⟩ (v2)).setCell ⟨b, 3, none⟩ (v3)).setCell ⟨b, 4, none⟩ (v4)).setCell ⟨b, 5, none⟩ (v5)).heap[b]? = some (.cells #[v0, v1, v2, v3, v4, v5, z6, z7, z8, z9, z10, z11, z12] t (0, 0)) := blk_set 5 v5 h4
  have h6 : (((((((w.setCell ⟨b, 0, none⟩ (v0)).setCell ⟨b, 1, none⟩ (v1)).setCell ⟨b, 2, none⟩ (v2)).setCell ⟨b, 3, none⟩ (v3)).setCell ⟨b, 4, none⟩ (v4)).setCell ⟨b, 5, none⟩ (v5)).setCell ⟨b, 6, none⟩ (v6)).heap[b]? = some (.cells #[v0, v1, v2, v3, v4, v5, v6, z7, z8, z9, z10, z11, z12] t (0, 0)) := blk_set 6 v6 h5
  have h7 : ((((((((w.setCell ⟨b, 0, none⟩ (v0)).setCell ⟨b, 1, none⟩ (v1)).setCell ⟨b, 2, none⟩ (v2)).setCell ⟨b, 3, none⟩ (v3)).setCell ⟨b, 4, none⟩ (v4)).setCell ⟨b, 5, none⟩ (v5)).setCell ⟨b, 6, none⟩ (v6)).setCell ⟨b, 7, none⟩ (v7)).heap[b]? = some (.cells #[v0, v1, v2, v3, v4, v5, v6, v7, z8, z9, z10, z11, z12] t (0, 0)) := blk_set 7 v7 h6
  have h8 : (((((((((w.setCell ⟨b, 0, none⟩ (v0)).setCell ⟨b, 1, none⟩ (v1)).setCell ⟨b, 2, none⟩ (v2)).setCell ⟨b, 3, none⟩ (v3)).setCell ⟨b, 4, none⟩ (v4)).setCell ⟨b, 5, none⟩ (v5)).setCell ⟨b, 6, none⟩ (v6)).setCell ⟨b, 7, none⟩ (v7)).setCell ⟨b, 8, none⟩ (v8)).heap[b]? = some (.cells #[v0, v1, v2, v3, v4, v5, v6, v7, v8, z9, z10, z11, z12] t (0, 0)) := blk_set 8 v8 h7
  have h9 : ((((((((((w.setCell ⟨b, 0, none⟩ (v0)).setCell ⟨b, 1, none⟩ (v1)).setCell ⟨b, 2, none⟩ (v2)).setCell ⟨b, 3, none⟩ (v3)).setCell ⟨b, 4, none⟩ (v4)).setCell ⟨b, 5, none⟩ (v5)).setCell ⟨b, 6, none⟩ (v6)).setCell ⟨b, 7, none⟩ (v7)).setCell ⟨b, 8, none⟩ (v8)).setCell ⟨b, 9, none⟩ (v9)).heap[b]? = some (.cells #[v0, v1, v2, v3, v4, v5, v6, v7, v8, v9, z10, z11, z12] t (0, 0)) := blk_set 9 v9 h8
  have h10 : (((((((((((w.setCell ⟨b, 0, none⟩ (v0)).setCell ⟨b, 1, none⟩ (v1)).setCell ⟨b, 2, none⟩ (v2)).setCell ⟨b, 3, none⟩ (v3)).setCell ⟨b, 4, none⟩ (v4)).setCell ⟨b, 5, none⟩ (v5)).setCell ⟨b, 6, none⟩ (v6)).setCell ⟨b, 7, none⟩ (v7)).setCell ⟨b, 8, none⟩ (v8)).setCell ⟨b, 9, none⟩ (v9)).setCell ⟨b, 10, none⟩ (v10)).heap[b]? = some (.cells #[v0, v1, v2, v3, v4, v5, v6, v7, v8, v9, v10, z11, z12] t (0, 0)) := blk_set 10 v10 h9
  have h11 : ((((((((((((w.setCell ⟨b, 0, none⟩ (v0)).setCell ⟨b, 1, none⟩ (v1)).setCell ⟨b, 2, none⟩ (v2)).setCell ⟨b, 3, none⟩ (v3)).setCell ⟨b, 4, none⟩ (v4)).setCell ⟨b, 5, none⟩ (v5)).setCell ⟨b, 6, none⟩ (v6)).setCell ⟨b, 7, none⟩ (v7)).setCell ⟨b, 8, none⟩ (v8)).setCell ⟨b, 9, none⟩ (v9)).setCell ⟨b, 10, none⟩ (v10)).setCell ⟨b, 11, none⟩ (v11)).heap[b]? = some (.cells #[v0, v1, v2, v3, v4, v5, v6, v7, v8, v9, v10, v11, z12] t (0, 0)) := blk_set 11 v11 h10
  have h12 : (((((((((((((w.setCell ⟨b, 0, none⟩ (v0)).setCell ⟨b, 1, none⟩ (v1)).setCell ⟨b, 2, none⟩ (v2)).setCell ⟨b, 3, none⟩ (v3)).setCell ⟨b, 4, none⟩ (v4)).setCell ⟨b, 5, none⟩ (v5)).setCell ⟨b, 6, none⟩ (v6)).setCell ⟨b, 7, none⟩ (v7)).setCell ⟨b, 8, none⟩ (v8)).setCell ⟨b, 9, none⟩ (v9)).setCell ⟨b, 10, none⟩ (v10)).setCell ⟨b, 11, none⟩ (v11)).setCell ⟨b, 12, none⟩ (v12)).heap[b]? = some (.cells #[v0, v1, v2, v3, v4, v5, v6, v7, v8, v9, v10, v11, v12] t (0, 0)) := blk_set 12 v12 h11
  exact h12
theorem blk_at {w : World} {b : Nat} {C : Array Value} {t : TypeId} (h : w.heap[b]? = some (.cells C t (0, 0))) (j : Nat) (hj : j < C.size) : w.cell? ⟨b, j, none⟩ = some C[j] ∧ w.frozen? ⟨b, j, none⟩ = false := by
  simp [World.cell?, World.frozen?, h, hj]
set_option maxHeartbeats 400000 in
theorem signed_any (c : Int) (h : 0 ≤ c) (h' : c < 256) (w : World) :
    Calls Tryd.prog 25 #[.int .u8 c] w fun e w' => e = .returned (.int .i64 (sgn c)) ∧ w = w' := by
  by_cases hc : 128 ≤ c
  all_goals
    go_enter Tryd.func25, Tryd.ntmps25
    go_wp2
    go_ret
    exact ⟨ret1 (by unfold sgn; (try simp only [wrap64, wrap32, IntKind.wrap_u64, IntKind.wrap_i64, IntKind.wrap_u32, IntKind.wrap_i32, IntKind.wrap_u8, IntKind.wrap_u16]) <;> omega), rfl⟩
set_option maxHeartbeats 6400000 in
set_option maxRecDepth 20000 in
theorem rdec_any (l : List UInt8) (hl : (l.length : Int) ≤ 4611686018427387904) (w : World) :
    Calls Tryd.prog 14 #[.string (bs l)] w fun e w' => e = .returned (.tuple #[(decV l).val, .string (bs (decR l)), .int .i64 (decE l)]) ∧ Below w.heap.size w w' := by
  by_cases h48 : l.length < 48
  · have e1 : decE l = 50 := by unfold decE; rw [if_pos h48]
    have e2 : decV l = Hd.zero := by unfold decV; rw [e1]; rfl
    have e3 : decR l = [] := by unfold decR; rw [e1]; rfl
    rw [e1, e2, e3]
    clear e1 e2 e3
    go_enter Tryd.func14, Tryd.ntmps14
    go_wp2_with fail
    exact bodyPost_ret (v := .tuple #[Hd.zero.val, .string (bs []), .int .i64 50]) (by simp [results, Tryd.results14, go_sem, Hd.zero, Hd.val, bs]) rfl ⟨rfl, by repeat' (first | (with_reducible exact Below.refl _ _) | (with_reducible assumption) | (with_reducible refine below_drewN ?_ _) | (with_reducible refine Below.drew ?_) | (with_reducible refine Below.setCell ?_ ?_ _) | (with_reducible refine Below.alloc ?_ ?_ _) | (simp; done) | (simp; omega) | omega)⟩
  · obtain ⟨n0, n1⟩ := byteAt_range l 0
    obtain ⟨m0, m1⟩ := byteAt_range l 1
    obtain ⟨p0, p1⟩ := byteAt_range l 2
    obtain ⟨q0, q1⟩ := byteAt_range l 3
    have h48' : 48 ≤ l.length := by omega
    by_cases hv : byteAt l 0 / 8 % 8 < 1 ∨ 4 < byteAt l 0 / 8 % 8
    · have e1 : decE l = 51 := by unfold decE; rw [if_neg h48]; exact if_pos hv
      have e2 : decV l = Hd.zero := by unfold decV; rw [e1]; rfl
      have e3 : decR l = [] := by unfold decR; rw [e1]; rfl
      rw [e1, e2, e3]
      clear e1 e2 e3
      rcases hv with hv | hv
      all_goals
        go_enter Tryd.func14, Tryd.ntmps14
        go_wp2_with fail
        exact bodyPost_ret (v := .tuple #[Hd.zero.val, .string (bs []), .int .i64 51]) (by simp [results, Tryd.results14, go_sem, Hd.zero, Hd.val, bs]) rfl ⟨rfl, by repeat' (first | (with_reducible exact Below.refl _ _) | (with_reducible assumption) | (with_reducible refine below_drewN ?_ _) | (with_reducible refine Below.drew ?_) | (with_reducible refine Below.setCell ?_ ?_ _) | (with_reducible refine Below.alloc ?_ ?_ _) | (simp; done) | (simp; omega) | omega)⟩
    · have e1 : decE l = 0 := by unfold decE; rw [if_neg h48]; exact if_neg hv
      have e2 : decV l = decH l := by unfold decV; rw [if_pos e1]
      have e3 : decR l = l.drop 48 := by unfold decR; rw [if_pos e1]
      rw [e1, e2, e3]
      clear e1 e2 e3
      have s2 := signed_any _ p0 p1
      have s3 := signed_any _ q0 q1
      have i0 : ∀ w, (Instr.index 9 (.string (bs l)) (.int .i64 0)).run Tryd.prog w = .ok (.int .u8 (byteAt l 0)) w := index_at l 0 (by omega)
      have i1 : ∀ w, (Instr.index 9 (.string (bs l)) (.int .i64 1)).run Tryd.prog w = .ok (.int .u8 (byteAt l 1)) w := index_at l 1 (by omega)
      have i2 : ∀ w, (Instr.index 9 (.string (bs l)) (.int .i64 2)).run Tryd.prog w = .ok (.int .u8 (byteAt l 2)) w := index_at l 2 (by omega)
      have i3 : ∀ w, (Instr.index 9 (.string (bs l)) (.int .i64 3)).run Tryd.prog w = .ok (.int .u8 (byteAt l 3)) w := index_at l 3 (by omega)
      have f0 : ∀ w, (Instr.slice 9 (.string (bs l)) (some (.int .i64 4)) (some (.int .i64 8)) none).run Tryd.prog w = .ok (.string (bs (cut l 4 8))) w := slice_at l 4 8 (by omega) (by omega)
      have g0 := number_any (cut l 4 8) (by rw [cut_len]; omega)
      obtain ⟨r0, t0⟩ := num_cut l 4 8 (by omega)
      have f1 : ∀ w, (Instr.slice 9 (.string (bs l)) (some (.int .i64 8)) (some (.int .i64 12)) none).run Tryd.prog w = .ok (.string (bs (cut l 8 12))) w := slice_at l 8 12 (by omega) (by omega)
      have g1 := number_any (cut l 8 12) (by rw [cut_len]; omega)
      obtain ⟨r1, t1⟩ := num_cut l 8 12 (by omega)
      have f2 : ∀ w, (Instr.slice 9 (.string (bs l)) (some (.int .i64 12)) (some (.int .i64 16)) none).run Tryd.prog w = .ok (.string (bs (cut l 12 16))) w := slice_at l 12 16 (by omega) (by omega)
      have g2 := number_any (cut l 12 16) (by rw [cut_len]; omega)
      obtain ⟨r2, t2⟩ := num_cut l 12 16 (by omega)
      have f3 : ∀ w, (Instr.slice 9 (.string (bs l)) (some (.int .i64 16)) (some (.int .i64 24)) none).run Tryd.prog w = .ok (.string (bs (cut l 16 24))) w := slice_at l 16 24 (by omega) (by omega)
      have g3 := number_any (cut l 16 24) (by rw [cut_len]; omega)
      obtain ⟨r3, t3⟩ := num_cut l 16 24 (by omega)
      have f4 : ∀ w, (Instr.slice 9 (.string (bs l)) (some (.int .i64 24)) (some (.int .i64 32)) none).run Tryd.prog w = .ok (.string (bs (cut l 24 32))) w := slice_at l 24 32 (by omega) (by omega)
      have g4 := number_any (cut l 24 32) (by rw [cut_len]; omega)
      obtain ⟨r4, t4⟩ := num_cut l 24 32 (by omega)
      have f5 : ∀ w, (Instr.slice 9 (.string (bs l)) (some (.int .i64 32)) (some (.int .i64 40)) none).run Tryd.prog w = .ok (.string (bs (cut l 32 40))) w := slice_at l 32 40 (by omega) (by omega)
      have g5 := number_any (cut l 32 40) (by rw [cut_len]; omega)
      obtain ⟨r5, t5⟩ := num_cut l 32 40 (by omega)
      have f6 : ∀ w, (Instr.slice 9 (.string (bs l)) (some (.int .i64 40)) (some (.int .i64 48)) none).run Tryd.prog w = .ok (.string (bs (cut l 40 48))) w := slice_at l 40 48 (by omega) (by omega)
      have g6 := number_any (cut l 40 48) (by rw [cut_len]; omega)
      obtain ⟨r6, t6⟩ := num_cut l 40 48 (by omega)
      have f7 : ∀ w, (Instr.slice 9 (.string (bs l)) (some (.int .i64 48)) none none).run Tryd.prog w = .ok (.string (bs (l.drop 48))) w := slice_from l 48 h48'
      have hH : (decH l).val = .agg #[.int .i64 (byteAt l 0 / 64), .int .i64 (byteAt l 0 / 8 % 8), .int .i64 (byteAt l 0 % 8), .int .i64 (byteAt l 1), .int .i64 (sgn (byteAt l 2)), .int .i64 (sgn (byteAt l 3)), .int .u32 (num (cut l 4 8)), .int .u32 (num (cut l 8 12)), .int .u32 (num (cut l 12 16)), .int .u64 (num (cut l 16 24)), .int .u64 (num (cut l 24 32)), .int .u64 (num (cut l 32 40)), .int .u64 (num (cut l 40 48))] := rfl
      rw [hH]
      clear hH h48
      have hz : ¬ ((bs l).size : Int) < 48 := by rw [bs_size]; omega
      generalize bs (l.drop 48) = R at *
      generalize bs (cut l 4 8) = S0 at *
      generalize num (cut l 4 8) = y0 at *
      generalize bs (cut l 8 12) = S1 at *
      generalize num (cut l 8 12) = y1 at *
      generalize bs (cut l 12 16) = S2 at *
      generalize num (cut l 12 16) = y2 at *
      generalize bs (cut l 16 24) = S3 at *
      generalize num (cut l 16 24) = y3 at *
      generalize bs (cut l 24 32) = S4 at *
      generalize num (cut l 24 32) = y4 at *
      generalize bs (cut l 32 40) = S5 at *
      generalize num (cut l 32 40) = y5 at *
      generalize bs (cut l 40 48) = S6 at *
      generalize num (cut l 40 48) = y6 at *
      generalize bs l = S at *
      generalize sgn (byteAt l 2) = x2 at *
      generalize sgn (byteAt l 3) = x3 at *
      generalize byteAt l 0 = c0 at *
      generalize byteAt l 1 = c1 at *
      generalize byteAt l 2 = c2 at *
      generalize byteAt l 3 = c3 at *
      simp only [Nat.reduceSub, Int.reducePow] at t0 t1 t2 t3 t4 t5 t6
      obtain ⟨v0, v1⟩ : 1 ≤ c0 / 8 % 8 ∧ c0 / 8 % 8 ≤ 4 := by omega
      clear hv hl h48'
      go_enter Tryd.func14, Tryd.ntmps14
      go_upto_region 6 with fail
      go_cut [6] (fun p wx => p = .pointer (some ⟨w.heap.size + 1, 0, none⟩) ∧ Below w.heap.size w wx ∧ wx.heap[w.heap.size]? = some (.cells #[.int .i64 0, .int .i64 0, .int .i64 0, .int .i64 0, .int .i64 0, .int .i64 0, .int .u32 0, .int .u32 0, .int .u32 0, .int .u64 0, .int .u64 0, .int .u64 0, .int .u64 0] 25 (0, 0)) ∧ wx.heap[w.heap.size + 1]? = some (.cells #[.int .i64 (c0 / 64), .int .i64 (c0 / 8 % 8), .int .i64 (c0 % 8), .int .i64 c1, .int .i64 x2, .int .i64 x3, .int .u32 0, .int .u32 0, .int .u32 0, .int .u64 0, .int .u64 0, .int .u64 0, .int .u64 0] 25 (0, 0)))
      case first =>
        clear g0 g1 g2 g3 g4 g5 g6 f0 f1 f2 f3 f4 f5 f6 f7
        have e0 : IntKind.i64.wrap c0 = c0 := by rw [IntKind.wrap_i64]; omega
        have e1 : IntKind.i64.wrap c1 = c1 := by rw [IntKind.wrap_i64]; omega
        have e2 : IntKind.i64.wrap (c0.tdiv 64) = c0 / 64 := by rw [Int.tdiv_eq_ediv_of_nonneg n0, IntKind.wrap_i64]; omega
        have e3 : c0.tmod 8 = c0 % 8 := Int.tmod_eq_emod_of_nonneg n0
        refine wp_region_any (by kernel_rfl) ?_
        change wpAny _ _ _ _ _ _ _ (World.drew _)
        refine wpAny_take (i := 0) (v := .string S) rfl (by kernel_rfl) (by kernel_rfl) (by kernel_rfl) (fun _ _ _ h => h) (Or.inl ⟨by rfl, fun w => by go_simp⟩) ?_
        refine wpAny_take (i := 1) (v := .int .u8 c0) rfl (by kernel_rfl) (by kernel_rfl) (by kernel_rfl) (fun _ _ _ h => h) (Or.inl ⟨by rfl, fun w => by go_simp⟩) ?_
        refine wpAny_take (i := 2) (v := .int .i64 c0) rfl (by kernel_rfl) (by kernel_rfl) (by kernel_rfl) (fun _ _ _ h => h) (Or.inl ⟨by rfl, fun w => by go_simp⟩) ?_
        refine wpAny_take (i := 3) (v := .int .i64 (c0 / 64)) rfl (by kernel_rfl) (by kernel_rfl) (by kernel_rfl) (fun _ _ _ h => h) (Or.inl ⟨by rfl, fun w => by go_simp⟩) ?_
        refine wpAny_take (i := 4) (v := .int .i64 (c0 / 8 % 8)) rfl (by kernel_rfl) (by kernel_rfl) (by kernel_rfl) (fun _ _ _ h => h) (Or.inl ⟨by rfl, fun w => by go_simp⟩) ?_
        refine wpAny_take (i := 5) (v := .string S) rfl (by kernel_rfl) (by kernel_rfl) (by kernel_rfl) (fun _ _ _ h => h) (Or.inl ⟨by rfl, fun w => by go_simp⟩) ?_
        refine wpAny_take (i := 6) (v := .int .u8 c0) rfl (by kernel_rfl) (by kernel_rfl) (by kernel_rfl) (fun _ _ _ h => h) (Or.inl ⟨by rfl, fun w => by go_simp⟩) ?_
        refine wpAny_take (i := 7) (v := .int .i64 c0) rfl (by kernel_rfl) (by kernel_rfl) (by kernel_rfl) (fun _ _ _ h => h) (Or.inl ⟨by rfl, fun w => by go_simp⟩) ?_
        refine wpAny_take (i := 8) (v := .int .i64 (c0 % 8)) rfl (by kernel_rfl) (by kernel_rfl) (by kernel_rfl) (fun _ _ _ h => h) (Or.inl ⟨by rfl, fun w => by go_simp⟩) ?_
        refine wpAny_take (i := 9) (v := .string S) rfl (by kernel_rfl) (by kernel_rfl) (by kernel_rfl) (fun _ _ _ h => h) (Or.inl ⟨by rfl, fun w => by go_simp⟩) ?_
        refine wpAny_take (i := 10) (v := .int .u8 c1) rfl (by kernel_rfl) (by kernel_rfl) (by kernel_rfl) (fun _ _ _ h => h) (Or.inl ⟨by rfl, fun w => by go_simp⟩) ?_
        refine wpAny_take (i := 11) (v := .int .i64 c1) rfl (by kernel_rfl) (by kernel_rfl) (by kernel_rfl) (fun _ _ _ h => h) (Or.inl ⟨by rfl, fun w => by go_simp⟩) ?_
        refine wpAny_take (i := 12) (v := .string S) rfl (by kernel_rfl) (by kernel_rfl) (by kernel_rfl) (fun _ _ _ h => h) (Or.inl ⟨by rfl, fun w => by go_simp⟩) ?_
        refine wpAny_take (i := 13) (v := .int .u8 c2) rfl (by kernel_rfl) (by kernel_rfl) (by kernel_rfl) (fun _ _ _ h => h) (Or.inl ⟨by rfl, fun w => by go_simp⟩) ?_
        refine wpAny_take (i := 15) (v := .string S) rfl (by kernel_rfl) (by kernel_rfl) (by kernel_rfl) (fun _ _ _ h => h) (Or.inl ⟨by rfl, fun w => by go_simp⟩) ?_
        refine wpAny_take (i := 16) (v := .int .u8 c3) rfl (by kernel_rfl) (by kernel_rfl) (by kernel_rfl) (fun _ _ _ h => h) (Or.inl ⟨by rfl, fun w => by go_simp⟩) ?_
        refine wpAny_ready (rs := [14, 19]) (by kernel_rfl) (by simp) ?_
        refine AllReady.cons rfl (fun K hK => ?_) (AllReady.cons rfl (fun K hK => ?_) AllReady.nil)
        · go_simp
          go_wp2_with ((go_at_call 25; with_reducible refine (s2 _).mono ?_; rintro e w' ⟨rfl, rfl⟩))
          first | (refine hK _ _ ?_; clear hK K) | skip
          refine wpAny_ready (rs := [17, 19]) (by kernel_rfl) (by simp) ?_
          refine AllReady.cons rfl (fun K hK => ?_) (AllReady.cons rfl (fun K hK => ?_) AllReady.nil)
          · go_simp
            go_wp2_with ((go_at_call 25; with_reducible refine (s3 _).mono ?_; rintro e w' ⟨rfl, rfl⟩))
            first | (refine hK _ _ ?_; clear hK K) | skip
            refine wpAny_take (i := 18) (v := .agg #[.int .i64 (c0 / 64), .int .i64 (c0 / 8 % 8), .int .i64 (c0 % 8), .int .i64 c1, .int .i64 x2, .int .i64 x3, .int .u32 0, .int .u32 0, .int .u32 0, .int .u64 0, .int .u64 0, .int .u64 0, .int .u64 0]) rfl (by kernel_rfl) (by kernel_rfl) (by kernel_rfl) (fun _ _ _ h => h) (Or.inl ⟨by rfl, fun w => by go_simp⟩) ?_
            refine wpAny_ready (rs := [19]) (by kernel_rfl) (by simp) ?_
            refine AllReady.cons rfl (fun K hK => ?_) AllReady.nil
            · go_simp
              (refine hK _ _ ?_; clear hK K)
              refine wpAny_ready (rs := [20]) (by kernel_rfl) (by simp) ?_
              refine AllReady.cons rfl (fun K hK => ?_) AllReady.nil
              · go_simp
                (refine hK _ _ ?_; clear hK K)
                refine wpAny_done (by kernel_rfl) ?_ _
                go_wp2_with fail
                go_meet
                exact ⟨rfl, by repeat' (first | (with_reducible exact Below.refl _ _) | (with_reducible assumption) | (with_reducible refine below_drewN ?_ _) | (with_reducible refine Below.drew ?_) | (with_reducible refine Below.setCell ?_ ?_ _) | (with_reducible refine Below.alloc ?_ ?_ _) | (simp; done) | (simp; omega) | omega), by show (World.alloc _ _).heap[_]? = _; exact heap_old _ _ _ rfl, by show (World.alloc _ _).heap[_]? = _; exact heap_new _ _ (by simp)⟩
          · go_simp
            (refine hK _ _ ?_; clear hK K)
            refine wpAny_ready (rs := [17]) (by kernel_rfl) (by simp) ?_
            refine AllReady.cons rfl (fun K hK => ?_) AllReady.nil
            · go_simp
              go_wp2_with ((go_at_call 25; with_reducible refine (s3 _).mono ?_; rintro e w' ⟨rfl, rfl⟩))
              first | (refine hK _ _ ?_; clear hK K) | skip
              refine wpAny_take (i := 18) (v := .agg #[.int .i64 (c0 / 64), .int .i64 (c0 / 8 % 8), .int .i64 (c0 % 8), .int .i64 c1, .int .i64 x2, .int .i64 x3, .int .u32 0, .int .u32 0, .int .u32 0, .int .u64 0, .int .u64 0, .int .u64 0, .int .u64 0]) rfl (by kernel_rfl) (by kernel_rfl) (by kernel_rfl) (fun _ _ _ h => h) (Or.inl ⟨by rfl, fun w => by go_simp⟩) ?_
              refine wpAny_ready (rs := [20]) (by kernel_rfl) (by simp) ?_
              refine AllReady.cons rfl (fun K hK => ?_) AllReady.nil
              · go_simp
                (refine hK _ _ ?_; clear hK K)
                refine wpAny_done (by kernel_rfl) ?_ _
                go_wp2_with fail
                go_meet
                exact ⟨rfl, by repeat' (first | (with_reducible exact Below.refl _ _) | (with_reducible assumption) | (with_reducible refine below_drewN ?_ _) | (with_reducible refine Below.drew ?_) | (with_reducible refine Below.setCell ?_ ?_ _) | (with_reducible refine Below.alloc ?_ ?_ _) | (simp; done) | (simp; omega) | omega), by show (World.alloc _ _).heap[_]? = _; exact heap_old _ _ _ rfl, by show (World.alloc _ _).heap[_]? = _; exact heap_new _ _ (by simp)⟩
        · go_simp
          (refine hK _ _ ?_; clear hK K)
          refine wpAny_ready (rs := [14]) (by kernel_rfl) (by simp) ?_
          refine AllReady.cons rfl (fun K hK => ?_) AllReady.nil
          · go_simp
            go_wp2_with ((go_at_call 25; with_reducible refine (s2 _).mono ?_; rintro e w' ⟨rfl, rfl⟩))
            first | (refine hK _ _ ?_; clear hK K) | skip
            refine wpAny_ready (rs := [17]) (by kernel_rfl) (by simp) ?_
            refine AllReady.cons rfl (fun K hK => ?_) AllReady.nil
            · go_simp
              go_wp2_with ((go_at_call 25; with_reducible refine (s3 _).mono ?_; rintro e w' ⟨rfl, rfl⟩))
              first | (refine hK _ _ ?_; clear hK K) | skip
              refine wpAny_take (i := 18) (v := .agg #[.int .i64 (c0 / 64), .int .i64 (c0 / 8 % 8), .int .i64 (c0 % 8), .int .i64 c1, .int .i64 x2, .int .i64 x3, .int .u32 0, .int .u32 0, .int .u32 0, .int .u64 0, .int .u64 0, .int .u64 0, .int .u64 0]) rfl (by kernel_rfl) (by kernel_rfl) (by kernel_rfl) (fun _ _ _ h => h) (Or.inl ⟨by rfl, fun w => by go_simp⟩) ?_
              refine wpAny_ready (rs := [20]) (by kernel_rfl) (by simp) ?_
              refine AllReady.cons rfl (fun K hK => ?_) AllReady.nil
              · go_simp
                (refine hK _ _ ?_; clear hK K)
                refine wpAny_done (by kernel_rfl) ?_ _
                go_wp2_with fail
                go_meet
                exact ⟨rfl, by repeat' (first | (with_reducible exact Below.refl _ _) | (with_reducible assumption) | (with_reducible refine below_drewN ?_ _) | (with_reducible refine Below.drew ?_) | (with_reducible refine Below.setCell ?_ ?_ _) | (with_reducible refine Below.alloc ?_ ?_ _) | (simp; done) | (simp; omega) | omega), by show (World.alloc _ _).heap[_]? = _; exact heap_old _ _ _ rfl, by show (World.alloc _ _).heap[_]? = _; exact heap_new _ _ (by simp)⟩
      case rest =>
        obtain ⟨rfl, hB, hr, hb⟩ := hcut
        have hz := hB.size
        have r0_ := (blk_at hr 0 (by simp)).1
        have q0_ := (blk_at hr 0 (by simp)).2
        have r1_ := (blk_at hr 1 (by simp)).1
        have q1_ := (blk_at hr 1 (by simp)).2
        have r2_ := (blk_at hr 2 (by simp)).1
        have q2_ := (blk_at hr 2 (by simp)).2
        have r3_ := (blk_at hr 3 (by simp)).1
        have q3_ := (blk_at hr 3 (by simp)).2
        have r4_ := (blk_at hr 4 (by simp)).1
        have q4_ := (blk_at hr 4 (by simp)).2
        have r5_ := (blk_at hr 5 (by simp)).1
        have q5_ := (blk_at hr 5 (by simp)).2
        have r6_ := (blk_at hr 6 (by simp)).1
        have q6_ := (blk_at hr 6 (by simp)).2
        have r7_ := (blk_at hr 7 (by simp)).1
        have q7_ := (blk_at hr 7 (by simp)).2
        have r8_ := (blk_at hr 8 (by simp)).1
        have q8_ := (blk_at hr 8 (by simp)).2
        have r9_ := (blk_at hr 9 (by simp)).1
        have q9_ := (blk_at hr 9 (by simp)).2
        have r10_ := (blk_at hr 10 (by simp)).1
        have q10_ := (blk_at hr 10 (by simp)).2
        have r11_ := (blk_at hr 11 (by simp)).1
        have q11_ := (blk_at hr 11 (by simp)).2
        have r12_ := (blk_at hr 12 (by simp)).1
        have q12_ := (blk_at hr 12 (by simp)).2
        have c0_ := (blk_at hb 0 (by simp)).1
        have c1_ := (blk_at hb 1 (by simp)).1
        have c2_ := (blk_at hb 2 (by simp)).1
        have c3_ := (blk_at hb 3 (by simp)).1
        have c4_ := (blk_at hb 4 (by simp)).1
        have c5_ := (blk_at hb 5 (by simp)).1
        have c6_ := (blk_at hb 6 (by simp)).1
        have c7_ := (blk_at hb 7 (by simp)).1
        have c8_ := (blk_at hb 8 (by simp)).1
        have c9_ := (blk_at hb 9 (by simp)).1
        have c10_ := (blk_at hb 10 (by simp)).1
        have c11_ := (blk_at hb 11 (by simp)).1
        have c12_ := (blk_at hb 12 (by simp)).1
        have f6_ := (blk_at hb 6 (by simp)).2
        have f7_ := (blk_at hb 7 (by simp)).2
        have f8_ := (blk_at hb 8 (by simp)).2
        have f9_ := (blk_at hb 9 (by simp)).2
        have f10_ := (blk_at hb 10 (by simp)).2
        have f11_ := (blk_at hb 11 (by simp)).2
        have f12_ := (blk_at hb 12 (by simp)).2
        simp only [List.getElem_toArray, List.getElem_cons_zero, List.getElem_cons_succ] at c0_ c1_ c2_ c3_ c4_ c5_ c6_ c7_ c8_ c9_ c10_ c11_ c12_ r0_ r1_ r2_ r3_ r4_ r5_ r6_ r7_ r8_ r9_ r10_ r11_ r12_
        have HR := Lib.hid hr
        have HB := Lib.hid hb
        clear hr hb
        go_wp2_with fail
        (with_reducible refine (g0 _).mono ?_)
        rintro e w' ⟨rfl, rfl⟩
        go_wp2_with fail
        (with_reducible refine (g1 _).mono ?_)
        rintro e w' ⟨rfl, rfl⟩
        go_wp2_with fail
        (with_reducible refine (g2 _).mono ?_)
        rintro e w' ⟨rfl, rfl⟩
        go_wp2_with fail
        (with_reducible refine (g3 _).mono ?_)
        rintro e w' ⟨rfl, rfl⟩
        go_wp2_with fail
        (with_reducible refine (g4 _).mono ?_)
        rintro e w' ⟨rfl, rfl⟩
        go_wp2_with fail
        (with_reducible refine (g5 _).mono ?_)
        rintro e w' ⟨rfl, rfl⟩
        go_wp2_with fail
        (with_reducible refine (g6 _).mono ?_)
        rintro e w' ⟨rfl, rfl⟩
        go_wp2_with fail
        generalize hW7 : (((((((wc.setCell ⟨w.heap.size + 1, 6, none⟩ (.int .u32 y0)).setCell ⟨w.heap.size + 1, 7, none⟩ (.int .u32 y1)).setCell ⟨w.heap.size + 1, 8, none⟩ (.int .u32 y2)).setCell ⟨w.heap.size + 1, 9, none⟩ (.int .u64 y3)).setCell ⟨w.heap.size + 1, 10, none⟩ (.int .u64 y4)).setCell ⟨w.heap.size + 1, 11, none⟩ (.int .u64 y5)).setCell ⟨w.heap.size + 1, 12, none⟩ (.int .u64 y6)) = W7
        have B7 : Below w.heap.size w W7 := by rw [← hW7]; repeat' (first | (with_reducible exact Below.refl _ _) | (with_reducible assumption) | (with_reducible refine below_drewN ?_ _) | (with_reducible refine Below.drew ?_) | (with_reducible refine Below.setCell ?_ ?_ _) | (with_reducible refine Below.alloc ?_ ?_ _) | (simp; done) | (simp; omega) | omega)
        have b7 : W7.heap[w.heap.size + 1]? = some (.cells #[.int .i64 (c0 / 64), .int .i64 (c0 / 8 % 8), .int .i64 (c0 % 8), .int .i64 c1, .int .i64 x2, .int .i64 x3, .int .u32 y0, .int .u32 y1, .int .u32 y2, .int .u64 y3, .int .u64 y4, .int .u64 y5, .int .u64 y6] 25 (0, 0)) := by
          rw [← hW7]
          exact blk_set 12 _ (blk_set 11 _ (blk_set 10 _ (blk_set 9 _ (blk_set 8 _ (blk_set 7 _ (blk_set 6 _ (HB.out)))))))
        have z7 : W7.heap[w.heap.size]? = some (.cells #[.int .i64 0, .int .i64 0, .int .i64 0, .int .i64 0, .int .i64 0, .int .i64 0, .int .u32 0, .int .u32 0, .int .u32 0, .int .u64 0, .int .u64 0, .int .u64 0, .int .u64 0] 25 (0, 0)) := by
          rw [← hW7]
          exact blk_far _ _ (by omega) (blk_far _ _ (by omega) (blk_far _ _ (by omega) (blk_far _ _ (by omega) (blk_far _ _ (by omega) (blk_far _ _ (by omega) (blk_far _ _ (by omega) (HR.out)))))))
        clear hW7 HR HB hB hz c0_ c1_ c2_ c3_ c4_ c5_ c6_ c7_ c8_ c9_ c10_ c11_ c12_ f6_ f7_ f8_ f9_ f10_ f11_ f12_ r0_ r1_ r2_ r3_ r4_ r5_ r6_ r7_ r8_ r9_ r10_ r11_ r12_ q0_ q1_ q2_ q3_ q4_ q5_ q6_ q7_ q8_ q9_ q10_ q11_ q12_
        have c0_ := (blk_at b7 0 (by simp)).1
        have c1_ := (blk_at b7 1 (by simp)).1
        have c2_ := (blk_at b7 2 (by simp)).1
        have c3_ := (blk_at b7 3 (by simp)).1
        have c4_ := (blk_at b7 4 (by simp)).1
        have c5_ := (blk_at b7 5 (by simp)).1
        have c6_ := (blk_at b7 6 (by simp)).1
        have c7_ := (blk_at b7 7 (by simp)).1
        have c8_ := (blk_at b7 8 (by simp)).1
        have c9_ := (blk_at b7 9 (by simp)).1
        have c10_ := (blk_at b7 10 (by simp)).1
        have c11_ := (blk_at b7 11 (by simp)).1
        have c12_ := (blk_at b7 12 (by simp)).1
        have r0_ := (blk_at z7 0 (by simp)).1
        have q0_ := (blk_at z7 0 (by simp)).2
        have r1_ := (blk_at z7 1 (by simp)).1
        have q1_ := (blk_at z7 1 (by simp)).2
        have r2_ := (blk_at z7 2 (by simp)).1
        have q2_ := (blk_at z7 2 (by simp)).2
        have r3_ := (blk_at z7 3 (by simp)).1
        have q3_ := (blk_at z7 3 (by simp)).2
        have r4_ := (blk_at z7 4 (by simp)).1
        have q4_ := (blk_at z7 4 (by simp)).2
        have r5_ := (blk_at z7 5 (by simp)).1
        have q5_ := (blk_at z7 5 (by simp)).2
        have r6_ := (blk_at z7 6 (by simp)).1
        have q6_ := (blk_at z7 6 (by simp)).2
        have r7_ := (blk_at z7 7 (by simp)).1
        have q7_ := (blk_at z7 7 (by simp)).2
        have r8_ := (blk_at z7 8 (by simp)).1
        have q8_ := (blk_at z7 8 (by simp)).2
        have r9_ := (blk_at z7 9 (by simp)).1
        have q9_ := (blk_at z7 9 (by simp)).2
        have r10_ := (blk_at z7 10 (by simp)).1
        have q10_ := (blk_at z7 10 (by simp)).2
        have r11_ := (blk_at z7 11 (by simp)).1
        have q11_ := (blk_at z7 11 (by simp)).2
        have r12_ := (blk_at z7 12 (by simp)).1
        have q12_ := (blk_at z7 12 (by simp)).2
        simp only [List.getElem_toArray, List.getElem_cons_zero, List.getElem_cons_succ] at c0_ c1_ c2_ c3_ c4_ c5_ c6_ c7_ c8_ c9_ c10_ c11_ c12_ r0_ r1_ r2_ r3_ r4_ r5_ r6_ r7_ r8_ r9_ r10_ r11_ r12_
        have hz := B7.size
        have Z7 := Lib.hid z7
        clear b7 z7
        go_region
        all_goals
          simp only [Exit.then]
          refine ‹∀ (a : Act) (w : World), Code.wp _ _ _ a w → _› _ _ ?_
          have b8 : (World.drew (((((((((((((W7.setCell ⟨w.heap.size, 0, none⟩ (.int .i64 (c0 / 64))).setCell ⟨w.heap.size, 1, none⟩ (.int .i64 (c0 / 8 % 8))).setCell ⟨w.heap.size, 2, none⟩ (.int .i64 (c0 % 8))).setCell ⟨w.heap.size, 3, none⟩ (.int .i64 c1)).setCell ⟨w.heap.size, 4, none⟩ (.int .i64 x2)).setCell ⟨w.heap.size, 5, none⟩ (.int .i64 x3)).setCell ⟨w.heap.size, 6, none⟩ (.int .u32 y0)).setCell ⟨w.heap.size, 7, none⟩ (.int .u32 y1)).setCell ⟨w.heap.size, 8, none⟩ (.int .u32 y2)).setCell ⟨w.heap.size, 9, none⟩ (.int .u64 y3)).setCell ⟨w.heap.size, 10, none⟩ (.int .u64 y4)).setCell ⟨w.heap.size, 11, none⟩ (.int .u64 y5)).setCell ⟨w.heap.size, 12, none⟩ (.int .u64 y6))).heap[w.heap.size]? = some (.cells #[.int .i64 (c0 / 64), .int .i64 (c0 / 8 % 8), .int .i64 (c0 % 8), .int .i64 c1, .int .i64 x2, .int .i64 x3, .int .u32 y0, .int .u32 y1, .int .u32 y2, .int .u64 y3, .int .u64 y4, .int .u64 y5, .int .u64 y6] 25 (0, 0)) :=
            by rw [drew_heap]; exact blk_fill _ _ _ _ _ _ _ _ _ _ _ _ _ _ _ _ _ _ _ _ _ _ _ _ _ _ _ _ _ Z7.out
          have B8 : Below w.heap.size w (World.drew (((((((((((((W7.setCell ⟨w.heap.size, 0, none⟩ (.int .i64 (c0 / 64))).setCell ⟨w.heap.size, 1, none⟩ (.int .i64 (c0 / 8 % 8))).setCell ⟨w.heap.size, 2, none⟩ (.int .i64 (c0 % 8))).setCell ⟨w.heap.size, 3, none⟩ (.int .i64 c1)).setCell ⟨w.heap.size, 4, none⟩ (.int .i64 x2)).setCell ⟨w.heap.size, 5, none⟩ (.int .i64 x3)).setCell ⟨w.heap.size, 6, none⟩ (.int .u32 y0)).setCell ⟨w.heap.size, 7, none⟩ (.int .u32 y1)).setCell ⟨w.heap.size, 8, none⟩ (.int .u32 y2)).setCell ⟨w.heap.size, 9, none⟩ (.int .u64 y3)).setCell ⟨w.heap.size, 10, none⟩ (.int .u64 y4)).setCell ⟨w.heap.size, 11, none⟩ (.int .u64 y5)).setCell ⟨w.heap.size, 12, none⟩ (.int .u64 y6))) := Below.drew (Below.setCell (Below.setCell (Below.setCell (Below.setCell (Below.setCell (Below.setCell (Below.setCell (Below.setCell (Below.setCell (Below.setCell (Below.setCell (Below.setCell (Below.setCell (B7) (Nat.le_refl _) _) (Nat.le_refl _) _) (Nat.le_refl _) _) (Nat.le_refl _) _) (Nat.le_refl _) _) (Nat.le_refl _) _) (Nat.le_refl _) _) (Nat.le_refl _) _) (Nat.le_refl _) _) (Nat.le_refl _) _) (Nat.le_refl _) _) (Nat.le_refl _) _) (Nat.le_refl _) _)
          generalize World.drew (((((((((((((W7.setCell ⟨w.heap.size, 0, none⟩ (.int .i64 (c0 / 64))).setCell ⟨w.heap.size, 1, none⟩ (.int .i64 (c0 / 8 % 8))).setCell ⟨w.heap.size, 2, none⟩ (.int .i64 (c0 % 8))).setCell ⟨w.heap.size, 3, none⟩ (.int .i64 c1)).setCell ⟨w.heap.size, 4, none⟩ (.int .i64 x2)).setCell ⟨w.heap.size, 5, none⟩ (.int .i64 x3)).setCell ⟨w.heap.size, 6, none⟩ (.int .u32 y0)).setCell ⟨w.heap.size, 7, none⟩ (.int .u32 y1)).setCell ⟨w.heap.size, 8, none⟩ (.int .u32 y2)).setCell ⟨w.heap.size, 9, none⟩ (.int .u64 y3)).setCell ⟨w.heap.size, 10, none⟩ (.int .u64 y4)).setCell ⟨w.heap.size, 11, none⟩ (.int .u64 y5)).setCell ⟨w.heap.size, 12, none⟩ (.int .u64 y6)) = W8 at *
          have d0_ := (blk_at b8 0 (by simp)).1
          have d1_ := (blk_at b8 1 (by simp)).1
          have d2_ := (blk_at b8 2 (by simp)).1
          have d3_ := (blk_at b8 3 (by simp)).1
          have d4_ := (blk_at b8 4 (by simp)).1
          have d5_ := (blk_at b8 5 (by simp)).1
          have d6_ := (blk_at b8 6 (by simp)).1
          have d7_ := (blk_at b8 7 (by simp)).1
          have d8_ := (blk_at b8 8 (by simp)).1
          have d9_ := (blk_at b8 9 (by simp)).1
          have d10_ := (blk_at b8 10 (by simp)).1
          have d11_ := (blk_at b8 11 (by simp)).1
          have d12_ := (blk_at b8 12 (by simp)).1
          simp only [List.getElem_toArray, List.getElem_cons_zero, List.getElem_cons_succ] at d0_ d1_ d2_ d3_ d4_ d5_ d6_ d7_ d8_ d9_ d10_ d11_ d12_
          clear c0_ c1_ c2_ c3_ c4_ c5_ c6_ c7_ c8_ c9_ c10_ c11_ c12_ r0_ r1_ r2_ r3_ r4_ r5_ r6_ r7_ r8_ r9_ r10_ r11_ r12_ q0_ q1_ q2_ q3_ q4_ q5_ q6_ q7_ q8_ q9_ q10_ q11_ q12_ b8 Z7 B7 hz
          refine wp_ret ?_
          refine bodyPost_ret (v := .tuple #[.agg #[.int .i64 (c0 / 64), .int .i64 (c0 / 8 % 8), .int .i64 (c0 % 8), .int .i64 c1, .int .i64 x2, .int .i64 x3, .int .u32 y0, .int .u32 y1, .int .u32 y2, .int .u64 y3, .int .u64 y4, .int .u64 y5, .int .u64 y6], .string R, .int .i64 0]) ?_ rfl ⟨rfl, B8⟩
          simp [results, Tryd.results14, go_sem, *]
end Go.Proofs.YthfgjhffcbehbaaDoor.W
