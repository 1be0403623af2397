/- Layer 9's own code, walked: the bytes of a slot. -/
import Derived.Test.YtcfdggeoecdnnaaDrB
namespace Go.Proofs.Ytcfdggeoecdnnaa.W
open Go.RowKit Go.Sort
set_option linter.unusedVariables false
set_option linter.unusedSimpArgs false
theorem push_all (l : List UInt8) : ∀ a : List UInt8, List.foldl (fun r (n : Int) => ByteArray.push r (UInt8.ofNat n.toNat)) (bs a) (l.map fun b => (b.toNat : Int)) = bs (a ++ l) := by
  induction l with
  | nil => intro a; simp
  | cons b l ih =>
    intro a
    have e : (bs a).push (UInt8.ofNat ((b.toNat : Int)).toNat) = bs (a ++ [b]) := by
      simp [bs, ByteArray.push]
    rw [List.map_cons, List.foldl_cons, e, ih, List.append_assoc]
    rfl
theorem bytes_in (l : List UInt8) (cap : Nat) (w : World) (b off : Nat) (hc : ∀ j, j < l.length → w.cell? ⟨b, off + j, none⟩ = some (.int .u8 (byteAt l j))) : (convert 38 9 (.slice (some ⟨b, off, none⟩) l.length cap)).run Try.prog w = .ok (.string (bs l)) w := by
  rw [run_convert_bytes_string _ _ _ 5 _ _ _ Try.underlying38 Try.underlying5 Try.underlying9]
  have hl := run_loadCells_list (P := Try.prog) w ⟨b, off, none⟩ (bc l) (fun j v hj => by
    have hj' : j < l.length := by have := (List.getElem?_eq_some_iff.1 hj).1; rwa [bc_length] at this
    rw [Addr.add_lit, hc j hj']
    rw [← hj]
    unfold byteAt bc
    rw [List.getD_eq_getElem?_getD, List.getElem?_map, List.getElem?_eq_getElem hj']
    rfl)
  have := run_bytesToString (P := Try.prog) w ⟨b, off, none⟩ l.length cap (l.map fun b => (b.toNat : Int)) (by rw [bc_length] at hl; rw [hl, List.map_map]; rfl)
  rw [this, show ByteArray.empty = bs [] from rfl, push_all]
  rfl
theorem pack_puts (q f : Int) : puts (puts (1 :: List.replicate 15 0) (wsFrom 1 (be 4 q))) (wsFrom 5 (be 8 (fu f))) = 1 :: (body q f ++ [0, 0, 0]) := rfl
theorem pack_sums (q f : Int) : ((1 :: (body q f ++ [0, 0, 0])).set 13 (b8 (sumA (body q f) % 256))).set 14 (b8 (sumB (body q f) % 256)) = pack q f := rfl
theorem body_at (q f : Int) (j : Nat) (hj : j < 12) : byteAt (1 :: (body q f ++ [0, 0, 0])) (1 + j) = byteAt (body q f) j := by
  unfold byteAt
  rw [List.getD_eq_getElem?_getD, List.getD_eq_getElem?_getD, Nat.add_comm, List.getElem?_cons_succ, List.getElem?_append_left (by rw [body_length]; exact hj)]
set_option maxHeartbeats 6400000 in
theorem pack_any (q f : Int) (q0 : 0 ≤ q) (q1 : q < 4294967296) (f0 : -9223372036854775808 ≤ f) (f1 : f ≤ 9223372036854775807) (w : World) :
    Calls Try.prog 15 #[.int .u32 q, .int .i64 f] w fun e w' => e = .returned (.string (bs (pack q f))) ∧ Below w.heap.size w w' := by
  have hz : (1 :: List.replicate 15 0 : List UInt8).length = 16 := rfl
  have hu := fu_range f
  have hfu : IntKind.u64.wrap f = fu f := by rw [IntKind.wrap_u64]; rfl
  have h1 : (w.alloc (.cells (bc (1 :: List.replicate 15 0)).toArray 55)).heap[w.heap.size]? = some (.cells (bc (1 :: List.replicate 15 0)).toArray 55 (0, 0)) := heap_alloc_new _ _
  have b1 := Below.alloc (Below.refl w.heap.size w) (Nat.le_refl _) (.cells (bc (1 :: List.replicate 15 0)).toArray 55)
  have e1 : w.alloc (.cells (bc (1 :: List.replicate 15 0)).toArray 55) = w.alloc (.cells #[.int .u8 1, .int .u8 0, .int .u8 0, .int .u8 0, .int .u8 0, .int .u8 0, .int .u8 0, .int .u8 0, .int .u8 0, .int .u8 0, .int .u8 0, .int .u8 0, .int .u8 0, .int .u8 0, .int .u8 0, .int .u8 0] 55) := rfl
  rw [e1] at h1 b1
  clear e1
  have y1 := fun w1 (h : w1.heap[w.heap.size]? = some (.cells (bc (1 :: List.replicate 15 0)).toArray 55 (0, 0))) => putNumber_4 q q0 (by omega) (1 :: List.replicate 15 0) w.heap.size 1 15 (by decide) _ w1 h
  have ex := pack_puts q f
  have l1 : (puts (1 :: List.replicate 15 0) (wsFrom 1 (be 4 q))).length = 16 := by rw [puts_length]; rfl
  generalize (1 :: List.replicate 15 0 : List UInt8) = z at *
  generalize puts z (wsFrom 1 (be 4 q)) = z1 at *
  have y2 := fun w1 (h : w1.heap[w.heap.size]? = some (.cells (bc z1).toArray 55 (0, 0))) => putNumber_8 (fu f) hu.1 hu.2 z1 w.heap.size 5 11 (by omega) _ w1 h
  rw [ex] at y2
  have es := pack_sums q f
  have l2 : (body q f).length = 12 := body_length q f
  have ha := body_at q f
  have l3 : (1 :: (body q f ++ [0, 0, 0])).length = 16 := by simp [l2]
  have l4 : (pack q f).length = 16 := pack_length q f
  have r1 : 0 ≤ sumA (body q f) % 256 ∧ sumA (body q f) % 256 < 256 := by omega
  have r2 : 0 ≤ sumB (body q f) % 256 ∧ sumB (body q f) % 256 < 256 := by omega
  have y3 := sums_any (body q f) (by omega) w.heap.size 1 15
  rw [l2] at y3
  generalize body q f = B at *
  generalize (1 :: (B ++ [0, 0, 0])) = z2 at *
  generalize pack q f = PK at *
  generalize sumA B % 256 = A1 at *
  generalize sumB B % 256 = A2 at *
  go_enter Try.func15, Try.ntmps15
  go_wp2_with fail
  generalize w.alloc (.cells #[.int .u8 1, .int .u8 0, .int .u8 0, .int .u8 0, .int .u8 0, .int .u8 0, .int .u8 0, .int .u8 0, .int .u8 0, .int .u8 0, .int .u8 0, .int .u8 0, .int .u8 0, .int .u8 0, .int .u8 0, .int .u8 0] 55) = w1 at *
  (with_reducible refine (y1 w1 h1).mono ?_)
  rintro e w2 ⟨rfl, h2, t2⟩
  have b2 := t2.below b1 b1.size (by rintro k rfl; exact Nat.le_refl _)
  clear h1 b1 t2 y1
  go_wp2_with fail
  (with_reducible refine (y2 w2 h2).mono ?_)
  rintro e w3 ⟨rfl, h3, t3⟩
  have b3 := t3.below b2 b2.size (by rintro k rfl; exact Nat.le_refl _)
  clear h2 b2 t3 y2
  have hl3 := (Array.getElem?_eq_some_iff.1 h3).1
  have c13 := bc_at h3 13 (by omega)
  have c14 := bc_at h3 14 (by omega)
  have z13 := bc_frozen h3 13
  have z14 := bc_frozen h3 14
  go_wp2_with fail
  (with_reducible refine (y3 w3 fun j hj => by rw [bc_at h3 (1 + j) (by omega), ha j (by omega)]).mono ?_)
  rintro e w4 ⟨rfl, rfl⟩
  have h5 : ((w3.setCell ⟨w.heap.size, 13, none⟩ (.int .u8 A1)).setCell ⟨w.heap.size, 14, none⟩ (.int .u8 A2)).heap[w.heap.size]? = some (.cells (bc PK).toArray 55 (0, 0)) := by
    rw [← es, ← bc_set _ _ _ r2.1 r2.2, ← bc_set _ _ _ r1.1 r1.2]
    exact block_set _ _ (block_set _ _ h3)
  have b5 := (b3.setCell (p := ⟨w.heap.size, 13, none⟩) (Nat.le_refl _) (.int .u8 A1)).setCell (p := ⟨w.heap.size, 14, none⟩) (Nat.le_refl _) (.int .u8 A2)
  have cv := bytes_in PK 16 _ w.heap.size 0 (fun j hj => by rw [Nat.zero_add]; exact bc_at h5 j hj)
  rw [l4] at cv
  clear h3 b3 h5 ha y3 ex es
  go_wp2_with fail
  go_ret
  exact ⟨rfl, b5⟩
end Go.Proofs.Ytcfdggeoecdnnaa.W
