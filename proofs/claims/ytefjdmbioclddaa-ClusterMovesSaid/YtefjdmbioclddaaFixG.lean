/- Means, walked: a sum of 128 bits, and the two closures over it. -/
import Derived.Test.YtefjdmbioclddaaFixD
import Derived.Test.YtefjdmbioclddaaWideA
import Derived.OneCell
import Derived.Lib.Zigzag
import Derived.Lib.Hide
namespace Go.Proofs.Ytefjdmbioclddaa.W
open Go.RowKit
set_option linter.unusedVariables false
set_option linter.unusedSimpArgs false
theorem heap_alloc_new' (w : World) (o : Obj) {k : Nat} (h : k = w.heap.size) : (w.alloc o).heap[k]? = some o := by
  subst h
  show (w.heap.push o)[w.heap.size]? = _
  simp
theorem not_u64 (x : Int) (h0 : 0 ≤ x) (h1 : x < 18446744073709551616) : bits .xor .u64 IntKind.u64.max x = 18446744073709551615 - x := by
  obtain ⟨n, rfl⟩ := Int.eq_ofNat_of_zero_le h0
  have e : IntKind.u64.max = ((2 ^ 64 - 1 : Nat) : Int) := by decide
  have b : n < 2 ^ 64 := by omega
  rw [e, bits_xor_u64_nat _ _ (by omega) (by omega), Lib.xor_ones64 n b]; omega
/-- A block of two cells. -/
theorem cell_of_two {w : World} {b : Nat} {u v : Value} {t : TypeId} (h : w.heap[b]? = some (.cells #[u, v] t (0, 0))) : w.cell? ⟨b, 0, none⟩ = some u ∧ w.cell? ⟨b, 1, none⟩ = some v := by simp [World.cell?, h]
theorem free_of_two {w : World} {b : Nat} {u v : Value} {t : TypeId} (h : w.heap[b]? = some (.cells #[u, v] t (0, 0))) : w.frozen? ⟨b, 0, none⟩ = false ∧ w.frozen? ⟨b, 1, none⟩ = false := by simp [World.frozen?, h]
theorem two_setCell {w : World} {b : Nat} {u v x : Value} {t : TypeId} (h : w.heap[b]? = some (.cells #[u, v] t (0, 0))) : (w.setCell ⟨b, 0, none⟩ x).heap[b]? = some (.cells #[x, v] t (0, 0)) ∧ (w.setCell ⟨b, 1, none⟩ x).heap[b]? = some (.cells #[u, x] t (0, 0)) := by
  have hlt := lt_of_block h
  have h' : w.heap[b] = .cells #[u, v] t (0, 0) := by simpa [Array.getElem?_eq_getElem hlt] using h
  constructor
  all_goals
    show (w.heap.modify b _)[b]? = _
    rw [Array.getElem?_eq_getElem (by simpa using hlt), Array.getElem_modify_self, h']
    rfl
set_option maxHeartbeats 800000 in
theorem splus_any (S x : Int) (hx : -9223372036854775808 ≤ x) (hx' : x ≤ 9223372036854775807) (w : World) :
    Calls Try.prog 55 #[.agg #[.int .u64 (sumH S), .int .u64 (sumL S)], .int .i64 x] w fun e w' => e = .returned (.agg #[.int .u64 (sumH (S + x)), .int .u64 (sumL (S + x))]) ∧ Below w.heap.size w w' := by
  obtain ⟨h0, h1, h2, h3⟩ := sum_range S
  by_cases hn : x < 0
  · obtain ⟨p1, p2⟩ := sum_plus_neg S x hn hx
    have hc := plus_any (sumH S) (sumL S) 18446744073709551615 (x + 18446744073709551616) h0 h1 h2 h3 (by decide) (by decide) (by omega) (by omega)
    rw [p1, p2] at hc
    clear p1 p2
    have e1 : x / 9223372036854775808 = -1 := by omega
    have e3 : IntKind.u64.wrap (-1) = 18446744073709551615 := by rw [IntKind.wrap_u64]; rfl
    have e2 : IntKind.u64.wrap x = x + 18446744073709551616 := by rw [IntKind.wrap_u64]; omega
    generalize plusM _ _ _ _ = m at *
    generalize sumH S = sh at *
    generalize sumL S = sl at *
    generalize sumH (S + x) = th at *
    generalize sumL (S + x) = tl at *
    go_enter Try.func55, Try.ntmps55
    go_wp2_with fail
    (with_reducible refine (hc _).mono ?_)
    rintro e w1 ⟨rfl, hb1⟩
    obtain ⟨c1, f1⟩ := bcell hb1
    have z1 := hb1.size
    simp at z1 c1 f1
    have y1 : w.heap.size < w1.heap.size := by omega
    have y2 : w.heap.size + 1 < w1.heap.size := by omega
    go_wp2_with fail
    have hbl : w1.heap[w.heap.size + 1]? = some (.cells #[.int .u64 0, .int .u64 0] 85 (0, 0)) := by
      rw [hb1.block (w.heap.size + 1) (by simp)]
      exact heap_alloc_new' _ _ (by simp)
    have hb2 := (two_setCell (x := .int .u64 th) hbl).1
    have hb3 := (two_setCell (x := .int .u64 tl) hb2).2
    have k0 := (cell_of_two hb2).1
    have k1 := (cell_of_two hb3).2
    exact bodyPost_ret (v := .agg #[.int .u64 th, .int .u64 tl]) (by simp [results, Try.results55, go_sem, k0, k1]) rfl ⟨rfl, Below.setCell (Below.setCell (Below.trans (Below.alloc (Below.alloc (Below.refl _ _) (by simp) _) (by simp) _) (hb1.mono (by simp; omega))) (by simp) _) (by simp) _⟩
  · obtain ⟨p1, p2⟩ := sum_plus_pos S x (by omega) (by omega)
    have hc := plus_any (sumH S) (sumL S) 0 x h0 h1 h2 h3 (by decide) (by decide) (by omega) (by omega)
    rw [p1, p2] at hc
    clear p1 p2
    have e1 : x / 9223372036854775808 = 0 := by omega
    generalize plusM _ _ _ _ = m at *
    generalize sumH S = sh at *
    generalize sumL S = sl at *
    generalize sumH (S + x) = th at *
    generalize sumL (S + x) = tl at *
    go_enter Try.func55, Try.ntmps55
    go_wp2_with fail
    (with_reducible refine (hc _).mono ?_)
    rintro e w1 ⟨rfl, hb1⟩
    obtain ⟨c1, f1⟩ := bcell hb1
    have z1 := hb1.size
    simp at z1 c1 f1
    have y1 : w.heap.size < w1.heap.size := by omega
    have y2 : w.heap.size + 1 < w1.heap.size := by omega
    go_wp2_with fail
    have hbl : w1.heap[w.heap.size + 1]? = some (.cells #[.int .u64 0, .int .u64 0] 85 (0, 0)) := by
      rw [hb1.block (w.heap.size + 1) (by simp)]
      exact heap_alloc_new' _ _ (by simp)
    have hb2 := (two_setCell (x := .int .u64 th) hbl).1
    have hb3 := (two_setCell (x := .int .u64 tl) hb2).2
    have k0 := (cell_of_two hb2).1
    have k1 := (cell_of_two hb3).2
    exact bodyPost_ret (v := .agg #[.int .u64 th, .int .u64 tl]) (by simp [results, Try.results55, go_sem, k0, k1]) rfl ⟨rfl, Below.setCell (Below.setCell (Below.trans (Below.alloc (Below.alloc (Below.refl _ _) (by simp) _) (by simp) _) (hb1.mono (by simp; omega))) (by simp) _) (by simp) _⟩
set_option maxHeartbeats 800000 in
theorem sby_any (S n : Int) (h : -170141183460469231731687303715884105728 ≤ S) (h' : S < 170141183460469231731687303715884105728) (hn : 0 < n) (hn' : n < 18446744073709551616) (w : World) :
    Calls Try.prog 57 #[.agg #[.int .u64 (sumH S), .int .u64 (sumL S)], .int .u64 n] w fun e w' => e = .returned (.int .i64 (cutI (S / n))) ∧ Below w.heap.size w w' := by
  obtain ⟨h0, h1, h2, h3⟩ := sum_range S
  by_cases hs : S < 0
  · obtain ⟨e1, e2⟩ := sum_neg S hs h
    have hc := plus_any (18446744073709551615 - sumH S) (18446744073709551615 - sumL S) 0 1 (by omega) (by omega) (by omega) (by omega) (by decide) (by decide) (by decide) (by decide)
    have r0 : 0 ≤ plusH (18446744073709551615 - sumH S) (18446744073709551615 - sumL S) 0 1 ∧ plusH (18446744073709551615 - sumH S) (18446744073709551615 - sumL S) 0 1 < 18446744073709551616 := by unfold plusH; omega
    have r1 : 0 ≤ plusL (18446744073709551615 - sumL S) 1 ∧ plusL (18446744073709551615 - sumL S) 1 < 18446744073709551616 := by unfold plusL; omega
    have hd := share_is true _ _ n (cutI (S / n)) r0.1 r0.2 r1.1 r1.2 hn hn' (by rw [e2]; unfold shareI; simp [signI])
    have n1 := not_u64 (sumH S) h0 h1
    have n2 := not_u64 (sumL S) h2 h3
    rw [← n1, ← n2] at hc hd
    clear e2 r0 r1 n1 n2
    generalize plusM _ _ _ _ = m at *
    generalize plusH _ _ _ _ = th at *
    generalize plusL _ _ = tl at *
    generalize sumH S = sh at *
    generalize sumL S = sl at *
    go_enter Try.func57, Try.ntmps57
    go_wp2_with fail
    (with_reducible refine (hc _).mono ?_)
    rintro e w1 ⟨rfl, hb1⟩
    go_wp2_with fail
    (with_reducible refine (hd _).mono ?_)
    rintro e w2 ⟨rfl, hb2⟩
    go_wp2_with fail
    go_ret
    have hB : Below w.heap.size w w1 := (Below.alloc (Below.refl _ _) (Nat.le_refl _) _).trans (hb1.mono (by simp))
    exact ⟨rfl, hB.trans (hb2.mono hB.size)⟩
  · obtain ⟨e2, e1⟩ := sum_pos S (by omega) h'
    have hd := share_is false _ _ n (cutI (S / n)) h0 h1 h2 h3 hn hn' (by rw [e2]; unfold shareI; simp [signI])
    clear e2
    generalize sumH S = sh at *
    generalize sumL S = sl at *
    go_enter Try.func57, Try.ntmps57
    go_wp2_with fail
    (with_reducible refine (hd _).mono ?_)
    rintro e w1 ⟨rfl, hb1⟩
    go_wp2_with fail
    go_ret
    exact ⟨rfl, (Below.alloc (Below.refl _ _) (by simp) _).trans (hb1.mono (by simp))⟩
end Go.Proofs.Ytefjdmbioclddaa.W
