/- The code's agenda, walked: two items put each where the other one was. -/
import Derived.Test.YtcnfidfpgohpoaaAgR
import Derived.BigRegion
import Derived.RegionTactic
import Derived.ChangeAlike
namespace Go.Proofs.Ytcnfidfpgohpoaa.W
open Go.RowKit Go.Sort
set_option linter.unusedVariables false
set_option linter.unusedSimpArgs false
theorem key_at (t : Int) (t0 : -9223372036854775808 ≤ t) (t1 : t ≤ 9223372036854775807) : keyOf Try.prog 3 (.int .i64 t) = some (tk t) := Maps.keyOf_int_mk Try.underlying3 (WalkArith.wf_i64 (by omega))
theorem elem_at (i : Int) (i0 : -9223372036854775808 ≤ i) (i1 : i ≤ 9223372036854775807) : plainElem (H := Nat) Try.prog 3 (.int .i64 i) = some (.lit (.int .i64 i), []) := plainElem_int Try.underlying3 (WalkArith.wf_i64 (by omega))
set_option maxHeartbeats 6400000 in
theorem gswap_any {hb m : Nat} {v : Value} {h : List It} {n : Int} {i j : Nat} {a b : It} (w : World) (x : Hv w hb v m h n) (hi : h[i]? = some a) (hj : h[j]? = some b) :
    Calls Try.prog 42 #[.pointer (some ⟨hb, 0, none⟩), .int .i64 i, .int .i64 j] w fun e w' => e = .returned (.tuple #[]) ∧ Hv w' hb v m (swapL h i j a b) n ∧ Touch (fun k => k = m ∨ v.ownBlock = some k) w w' := by
  have li := (List.getElem?_eq_some_iff.1 hi).1
  have lj := (List.getElem?_eq_some_iff.1 hj).1
  obtain ⟨g, cap, rfl⟩ := x.at_ (by omega)
  obtain ⟨p0, p1, _, _⟩ := three_cells x.blk
  obtain ⟨a0, a1, a2, a3⟩ := row_cells x.row hi
  obtain ⟨b0, b1, b2, b3⟩ := row_cells x.row hj
  obtain ⟨n1, n2⟩ := x.own g rfl
  have li' : (i : Int) < (h.length : Int) := by omega
  have lj' : (j : Int) < (h.length : Int) := by omega
  have i0 : (0 : Int) ≤ (i : Int) := by omega
  have j0 : (0 : Int) ≤ (j : Int) := by omega
  have rf := row_frozen x.row
  obtain ⟨u0, hu0⟩ := cell?_setCell_some (w := w) (p := ⟨g, i * 4, none⟩) (x := .int .i64 b.at_) (q := ⟨g, j * 4, none⟩) b0
  obtain ⟨_, t1⟩ := cell?_setCell_some (w := w) (p := ⟨g, i * 4, none⟩) (x := .int .i64 b.at_) (q := ⟨g, j * 4 + 1, none⟩) b1
  obtain ⟨u1, hu1⟩ := cell?_setCell_some (p := ⟨g, i * 4 + 1, none⟩) (x := .int .i64 b.kind) t1
  obtain ⟨_, t2⟩ := cell?_setCell_some (w := w) (p := ⟨g, i * 4, none⟩) (x := .int .i64 b.at_) (q := ⟨g, j * 4 + 2, none⟩) b2
  obtain ⟨_, t2⟩ := cell?_setCell_some (p := ⟨g, i * 4 + 1, none⟩) (x := .int .i64 b.kind) t2
  obtain ⟨u2, hu2⟩ := cell?_setCell_some (p := ⟨g, i * 4 + 2, none⟩) (x := .string (bs b.data)) t2
  obtain ⟨_, t3⟩ := cell?_setCell_some (w := w) (p := ⟨g, i * 4, none⟩) (x := .int .i64 b.at_) (q := ⟨g, j * 4 + 3, none⟩) b3
  obtain ⟨_, t3⟩ := cell?_setCell_some (p := ⟨g, i * 4 + 1, none⟩) (x := .int .i64 b.kind) t3
  obtain ⟨_, t3⟩ := cell?_setCell_some (p := ⟨g, i * 4 + 2, none⟩) (x := .string (bs b.data)) t3
  obtain ⟨u3, hu3⟩ := cell?_setCell_some (p := ⟨g, i * 4 + 3, none⟩) (x := .int .i64 b.ticket) t3
  clear t1 t2 t3
  have X := Lib.hid x
  clear x
  go_enter Try.func42, Try.ntmps42
  go_wp2_with fail
  go_region
  go_wp2_with fail
  clear hu0 hu1 hu2 hu3 a0 a1 a2 a3 b0 b1 b2 b3 p0 p1 rf
  have hrow := row_set (row_set X.out.row i b li) j a (by simpa using lj)
  have htouch : Touch (fun k => k = g) w ((((((((w.setCell ⟨g, i * 4, none⟩ (.int .i64 b.at_)).setCell ⟨g, i * 4 + 1, none⟩ (.int .i64 b.kind)).setCell ⟨g, i * 4 + 2, none⟩ (.string (bs b.data))).setCell ⟨g, i * 4 + 3, none⟩ (.int .i64 b.ticket)).setCell ⟨g, j * 4, none⟩ (.int .i64 a.at_)).setCell ⟨g, j * 4 + 1, none⟩ (.int .i64 a.kind)).setCell ⟨g, j * 4 + 2, none⟩ (.string (bs a.data))).setCell ⟨g, j * 4 + 3, none⟩ (.int .i64 a.ticket)) := by
    refine Touch.setCell (Touch.setCell (Touch.setCell (Touch.setCell (Touch.setCell (Touch.setCell (Touch.setCell (Touch.setCell (Touch.refl _ _) ?_ _) ?_ _) ?_ _) ?_ _) ?_ _) ?_ _) ?_ _) ?_ _ <;> exact .inl rfl
  generalize ((((((((w.setCell ⟨g, i * 4, none⟩ (.int .i64 b.at_)).setCell ⟨g, i * 4 + 1, none⟩ (.int .i64 b.kind)).setCell ⟨g, i * 4 + 2, none⟩ (.string (bs b.data))).setCell ⟨g, i * 4 + 3, none⟩ (.int .i64 b.ticket)).setCell ⟨g, j * 4, none⟩ (.int .i64 a.at_)).setCell ⟨g, j * 4 + 1, none⟩ (.int .i64 a.kind)).setCell ⟨g, j * 4 + 2, none⟩ (.string (bs a.data))).setCell ⟨g, j * 4 + 3, none⟩ (.int .i64 a.ticket)) = w3 at *
  have hrow3 : w3.drew.ownsRow 0 39 4 (.slice (some ⟨g, 0, none⟩) h.length cap) h.length ((swapL h i j a b).flatMap itE) := hrow
  have htouch3 : Touch (fun k => k = g) w w3.drew := htouch.drewN 1
  clear hrow htouch
  generalize w3.drew = w4 at *
  obtain ⟨D, hm, hp⟩ := X.out.map
  obtain ⟨lhb, lm, lg⟩ := X.out.lt
  have hm4 : MapAt w4.drew m h.length D := map_of_block hm (htouch3.block m lm (fun e => n2 e.symm))
  have hT := hm.tidy int_key
  obtain ⟨tb0, tb1⟩ := X.out.tks b (List.mem_of_getElem? hj)
  obtain ⟨ta0, ta1⟩ := X.out.tks a (List.mem_of_getElem? hi)
  have hl := X.out.len
  have hblk4 : w4.heap[hb]? = some (.cells #[.slice (some ⟨g, 0, none⟩) h.length cap, .map (some m), .int .i64 n] 65 (0, 0)) := (htouch3.block hb lhb (fun e => n1 e.symm)).trans X.out.blk
  obtain ⟨w5, hrun5, hm5, ht5⟩ := hm4.store int_key Try.underlying63 (by unfold maxLen; omega) (key_at b.ticket (by omega) (by omega)) (elem_at i (by omega) (by omega))
  have hsb := row_cells (h := swapL h i j a b) (cap := cap) (w := w4) (by rw [swap_len]; exact hrow3) (i := i) (x := b) (by rw [swap_at hi hj]; by_cases e : i = j <;> simp [e]; rw [e] at hi; rw [hi] at hj; exact Option.some.inj hj)
  obtain ⟨p0, p1, _, _⟩ := three_cells hblk4
  obtain ⟨_, _, _, b3⟩ := hsb
  go_region
  go_wp2_with fail
  have hg5 : w4.drew.grownBy w5 (some m) := ht5.grown
  have hz4 : w.heap.size ≤ w4.heap.size := htouch3.size
  have hlg := lg g rfl
  have b5 : ∀ k, k < w.heap.size → k ≠ m → w5.heap[k]? = w4.heap[k]? := fun k hk hne => hg5.block k (Nat.lt_of_lt_of_le hk hz4) (fun e => hne (Option.some.inj e))
  have hrow5 := row_of_block hrow3 (w' := w5) (fun g' hg' => by cases hg'; exact b5 g hlg n2)
  have hblk5 := (b5 hb lhb X.out.ne).trans hblk4
  have hs1 : Maps.size (D.put (tk b.ticket) (.lit (.int .i64 i))) = h.length := by
    rw [Maps.size_put hT, hp.has, has_of hj, if_pos rfl, hp.size]
  have hT1 := hm5.tidy int_key
  have hm5' : MapAt w5.drew m h.length (D.put (tk b.ticket) (.lit (.int .i64 i))) := by
    have := map_tight hm5
    rw [hs1] at this
    exact this
  have hsa := row_cells (h := swapL h i j a b) (cap := cap) (w := w5) (by rw [swap_len]; exact hrow5) (i := j) (x := a) (by rw [swap_at hi hj, if_pos rfl])
  clear hrun5 hm4 p0 p1 b3 hm5
  obtain ⟨w6, hrun6, hm6, ht6⟩ := hm5'.store int_key Try.underlying63 (by unfold maxLen; omega) (key_at a.ticket (by omega) (by omega)) (elem_at j (by omega) (by omega))
  obtain ⟨p0, p1, _, _⟩ := three_cells hblk5
  obtain ⟨_, _, _, a3⟩ := hsa
  go_region
  go_wp2_with fail
  go_end0
  have hg6 : w5.drew.grownBy w6 (some m) := ht6.grown
  have hz5 : w4.heap.size ≤ w5.heap.size := hg5.size
  have b6 : ∀ k, k < w.heap.size → k ≠ m → w6.heap[k]? = w5.heap[k]? := fun k hk hne => hg6.block k (Nat.lt_of_lt_of_le hk (Nat.le_trans hz4 hz5)) (fun e => hne (Option.some.inj e))
  have hpl := pl_swap hp hT X.out.uniq hi hj
  have hs2 : Maps.size ((D.put (tk b.ticket) (.lit (.int .i64 i))).put (tk a.ticket) (.lit (.int .i64 j))) = h.length := by
    rw [hpl.size, swap_len]
  have hm6' := map_tight hm6
  rw [hs2] at hm6'
  have hperm := swap_perm hi hj
  refine ⟨rfl, ⟨(b6 hb lhb X.out.ne).trans hblk5, ?_, ⟨_, ?_, hpl⟩, X.out.ne, X.out.own, by rw [swap_len]; exact hl, fun y hy => X.out.tks y (hperm.mem_iff.1 hy), X.out.uniq.perm hperm⟩, ?_⟩
  · rw [swap_len]
    exact row_of_block hrow5 (w' := w6) (fun g' hg' => by cases hg'; exact b6 g hlg n2)
  · rw [swap_len]
    exact hm6'
  · refine ⟨hg6.os.trans (hg5.os.trans htouch3.os), hg6.tape.trans (hg5.tape.trans htouch3.tape), hg6.output.trans (hg5.output.trans htouch3.output), Nat.le_trans hz4 (Nat.le_trans hz5 hg6.size), fun k hk hn => ?_⟩
    have k1 : k ≠ m := fun e => hn (.inl e)
    have k2 : k ≠ g := fun e => hn (.inr (by rw [e]; rfl))
    exact (b6 k hk k1).trans ((b5 k hk k1).trans (htouch3.block k hk k2))
end Go.Proofs.Ytcnfidfpgohpoaa.W
