/- Layer 12's counts: ten numbers, what they are behind a list; a struct of ten cells that is stored anew. -/
import Derived.Test.YtjelbpibofngiaaCkX
import Derived.Test.YtjelbpibofngiaaQtB
namespace Go.Proofs.Ytjelbpibofngiaa.W
open Go.RowKit Go.Sort
set_option linter.unusedVariables false
def tenV (n : Nat → Int) : Value := .agg #[.int .i64 (n 0), .int .i64 (n 1), .int .i64 (n 2), .int .i64 (n 3), .int .i64 (n 4), .int .i64 (n 5), .int .i64 (n 6), .int .i64 (n 7), .int .i64 (n 8), .int .i64 (n 9)]
def bumpN (n : Nat → Int) (e : Int) : Nat → Int := fun k => if (k : Int) = causeI e then n k + 1 else n k
/-- How many of the list have cause k. -/
def cntN (l : List Int) : Nat → Int := l.foldl bumpN (fun _ => 0)
def sumN (n : Nat → Int) : Nat → Int
  | 0 => 0
  | k + 1 => sumN n k + n k
theorem sum_bump (n : Nat → Int) (e : Int) : sumN (bumpN n e) 10 = sumN n 10 + 1 := by
  have h := cause_in e
  simp only [sumN, bumpN]
  generalize causeI e = c at *
  have hc : c = 0 ∨ c = 1 ∨ c = 2 ∨ c = 3 ∨ c = 4 ∨ c = 5 ∨ c = 6 ∨ c = 7 ∨ c = 8 ∨ c = 9 := by omega
  rcases hc with rfl | rfl | rfl | rfl | rfl | rfl | rfl | rfl | rfl | rfl <;> simp <;> omega
theorem cnt_snoc (l : List Int) (e : Int) : cntN (l ++ [e]) = bumpN (cntN l) e := by simp [cntN]
theorem fold_sum (l : List Int) : ∀ n, sumN (l.foldl bumpN n) 10 = sumN n 10 + l.length := by
  induction l with
  | nil => intro n; simp
  | cons e l ih =>
    intro n
    rw [List.foldl_cons, ih, sum_bump]
    simp
    omega
theorem fold_bounds (l : List Int) : ∀ (n : Nat → Int) (c : Int), (∀ k, 0 ≤ n k ∧ n k ≤ c) → ∀ k, 0 ≤ (l.foldl bumpN n) k ∧ (l.foldl bumpN n) k ≤ c + l.length := by
  induction l with
  | nil => intro n c h k; simpa using h k
  | cons e l ih =>
    intro n c h k
    have := ih (bumpN n e) (c + 1) (fun j => by
      have := h j
      unfold bumpN
      split <;> omega) k
    rw [List.foldl_cons]
    simp only [List.length_cons]
    omega
theorem cnt_bounds (l : List Int) (k : Nat) : 0 ≤ cntN l k ∧ cntN l k ≤ l.length := by
  have := fold_bounds l (fun _ => 0) 0 (fun _ => by omega) k
  unfold cntN
  omega
theorem cnt_sum (l : List Int) : sumN (cntN l) 10 = l.length := by
  unfold cntN
  rw [fold_sum]
  simp [sumN]
theorem ten_in {w : World} {p : Nat} {a0 a1 a2 a3 a4 a5 a6 a7 a8 a9 : Value} {t : TypeId} (h : w.heap[p]? = some (.cells #[a0, a1, a2, a3, a4, a5, a6, a7, a8, a9] t (0, 0))) :
    w.cell? ⟨p, 0, none⟩ = some a0 ∧ w.cell? ⟨p, 1, none⟩ = some a1 ∧ w.cell? ⟨p, 2, none⟩ = some a2 ∧ w.cell? ⟨p, 3, none⟩ = some a3 ∧ w.cell? ⟨p, 4, none⟩ = some a4 ∧ w.cell? ⟨p, 5, none⟩ = some a5 ∧ w.cell? ⟨p, 6, none⟩ = some a6 ∧ w.cell? ⟨p, 7, none⟩ = some a7 ∧ w.cell? ⟨p, 8, none⟩ = some a8 ∧ w.cell? ⟨p, 9, none⟩ = some a9 := by
  refine ⟨?_, ?_, ?_, ?_, ?_, ?_, ?_, ?_, ?_, ?_⟩ <;> simp [World.cell?, h]
theorem ten_thaw {w : World} {p : Nat} {a0 a1 a2 a3 a4 a5 a6 a7 a8 a9 : Value} {t : TypeId} (h : w.heap[p]? = some (.cells #[a0, a1, a2, a3, a4, a5, a6, a7, a8, a9] t (0, 0))) (j : Nat) : w.frozen? ⟨p, j, none⟩ = false := by
  simp [World.frozen?, h]
theorem ten_nth {w : World} {p : Nat} {n : Nat → Int} {t : TypeId} (h : w.heap[p]? = some (.cells #[.int .i64 (n 0), .int .i64 (n 1), .int .i64 (n 2), .int .i64 (n 3), .int .i64 (n 4), .int .i64 (n 5), .int .i64 (n 6), .int .i64 (n 7), .int .i64 (n 8), .int .i64 (n 9)] t (0, 0))) {k : Nat} (hk : k < 10) : w.cell? ⟨p, k, none⟩ = some (.int .i64 (n k)) := by
  have : k = 0 ∨ k = 1 ∨ k = 2 ∨ k = 3 ∨ k = 4 ∨ k = 5 ∨ k = 6 ∨ k = 7 ∨ k = 8 ∨ k = 9 := by omega
  rcases this with rfl | rfl | rfl | rfl | rfl | rfl | rfl | rfl | rfl | rfl <;> simp [World.cell?, h]
/-- Ten cells, written. -/
def tenPut (w : World) (b : Nat) (a0 a1 a2 a3 a4 a5 a6 a7 a8 a9 : Value) : World := ((((((((((w.setCell ⟨b, 0, none⟩ a0).setCell ⟨b, 1, none⟩ a1).setCell ⟨b, 2, none⟩ a2).setCell ⟨b, 3, none⟩ a3).setCell ⟨b, 4, none⟩ a4).setCell ⟨b, 5, none⟩ a5).setCell ⟨b, 6, none⟩ a6).setCell ⟨b, 7, none⟩ a7).setCell ⟨b, 8, none⟩ a8).setCell ⟨b, 9, none⟩ a9)
set_option maxRecDepth 100000 in
set_option maxHeartbeats 1600000 in
theorem tenPut_at {w : World} {b : Nat} {a0 a1 a2 a3 a4 a5 a6 a7 a8 a9 o0 o1 o2 o3 o4 o5 o6 o7 o8 o9 : Value} {t : TypeId} (h : w.heap[b]? = some (.cells #[o0, o1, o2, o3, o4, o5, o6, o7, o8, o9] t (0, 0))) : (tenPut w b a0 a1 a2 a3 a4 a5 a6 a7 a8 a9).heap[b]? = some (.cells #[a0, a1, a2, a3, a4, a5, a6, a7, a8, a9] t (0, 0)) := by
  have h0 : (w.setCell ⟨b, 0, none⟩ a0).heap[b]? = some (.cells #[a0, o1, o2, o3, o4, o5, o6, o7, o8, o9] t (0, 0)) := block_set 0 a0 h
  have h1 : ((w.setCell ⟨b, 0, none⟩ a0).setCell ⟨b, 1, none⟩ a1).heap[b]? = some (.cells #[a0, a1, o2, o3, o4, o5, o6, o7, o8, o9] t (0, 0)) := block_set 1 a1 h0
  have h2 : (((w.setCell ⟨b, 0, none⟩ a0).setCell ⟨b, 1, none⟩ a1).setCell ⟨b, 2, none⟩ a2).heap[b]? = some (.cells #[a0, a1, a2, o3, o4, o5, o6, o7, o8, o9] t (0, 0)) := block_set 2 a2 h1
  have h3 : ((((w.setCell ⟨b, 0, none⟩ a0).setCell ⟨b, 1, none⟩ a1).setCell ⟨b, 2, none⟩ a2).setCell ⟨b, 3, none⟩ a3).heap[b]? = some (.cells #[a0, a1, a2, a3, o4, o5, o6, o7, o8, o9] t (0, 0)) := block_set 3 a3 h2
  have h4 : (((((w.setCell ⟨b, 0, none⟩ a0).setCell ⟨b, 1, none⟩ a1).setCell ⟨b, 2, none⟩ a2).setCell ⟨b, 3, none⟩ a3).setCell ⟨b, 4, none⟩ a4).heap[b]? = some (.cells #[a0, a1, a2, a3, a4, o5, o6, o7, o8, o9] t (0, 0)) := block_set 4 a4 h3
  have h5 : ((((((w.setCell ⟨b, 0, none⟩ a0).setCell ⟨b, 1, none⟩ a1).setCell ⟨b, 2, none⟩ a2).setCell ⟨b, 3, none⟩ a3).setCell ⟨b, 4, none⟩ a4).setCell ⟨b, 5, none⟩ a5).heap[b]? = some (.cells #[a0, a1, a2, a3, a4, a5, o6, o7, o8, o9] t (0, 0)) := block_set 5 a5 h4
  have h6 : (((((((w.setCell ⟨b, 0, none⟩ a0).setCell ⟨b, 1, none⟩ a1).setCell ⟨b, 2, none⟩ a2).setCell ⟨b, 3, none⟩ a3).setCell ⟨b, 4, none⟩ a4).setCell ⟨b, 5, none⟩ a5).setCell ⟨b, 6, none⟩ a6).heap[b]? = some (.cells #[a0, a1, a2, a3, a4, a5, a6, o7, o8, o9] t (0, 0)) := block_set 6 a6 h5
  have h7 : ((((((((w.setCell ⟨b, 0, none⟩ a0).setCell ⟨b, 1, none⟩ a1).setCell ⟨b, 2, none⟩ a2).setCell ⟨b, 3, none⟩ a3).setCell ⟨b, 4, none⟩ a4).setCell ⟨b, 5, none⟩ a5).setCell ⟨b, 6, none⟩ a6).setCell ⟨b, 7, none⟩ a7).heap[b]? = some (.cells #[a0, a1, a2, a3, a4, a5, a6, a7, o8, o9] t (0, 0)) := block_set 7 a7 h6
  have h8 : (((((((((w.setCell ⟨b, 0, none⟩ a0).setCell ⟨b, 1, none⟩ a1).setCell ⟨b, 2, none⟩ a2).setCell ⟨b, 3, none⟩ a3).setCell ⟨b, 4, none⟩ a4).setCell ⟨b, 5, none⟩ a5).setCell ⟨b, 6, none⟩ a6).setCell ⟨b, 7, none⟩ a7).setCell ⟨b, 8, none⟩ a8).heap[b]? = some (.cells #[a0, a1, a2, a3, a4, a5, a6, a7, a8, o9] t (0, 0)) := block_set 8 a8 h7
  have h9 : ((((((((((w.setCell ⟨b, 0, none⟩ a0).setCell ⟨b, 1, none⟩ a1).setCell ⟨b, 2, none⟩ a2).setCell ⟨b, 3, none⟩ a3).setCell ⟨b, 4, none⟩ a4).setCell ⟨b, 5, none⟩ a5).setCell ⟨b, 6, none⟩ a6).setCell ⟨b, 7, none⟩ a7).setCell ⟨b, 8, none⟩ a8).setCell ⟨b, 9, none⟩ a9).heap[b]? = some (.cells #[a0, a1, a2, a3, a4, a5, a6, a7, a8, a9] t (0, 0)) := block_set 9 a9 h8
  exact h9
theorem tenPut_below {w0 w : World} {b : Nat} (a0 a1 a2 a3 a4 a5 a6 a7 a8 a9 : Value) (h : Below w0.heap.size w0 w) (hp : w0.heap.size ≤ b) : Below w0.heap.size w0 (tenPut w b a0 a1 a2 a3 a4 a5 a6 a7 a8 a9) := by
  unfold tenPut
  exact ((((((((((h.setCell hp a0).setCell hp a1).setCell hp a2).setCell hp a3).setCell hp a4).setCell hp a5).setCell hp a6).setCell hp a7).setCell hp a8).setCell hp a9)
theorem bump_at (n : Nat → Int) (e0 : Int) (k : Nat) (hk : causeI e0 = k) (hk10 : k < 10) : (#[.int .i64 (n 0), .int .i64 (n 1), .int .i64 (n 2), .int .i64 (n 3), .int .i64 (n 4), .int .i64 (n 5), .int .i64 (n 6), .int .i64 (n 7), .int .i64 (n 8), .int .i64 (n 9)] : Array Value).setIfInBounds k (.int .i64 (n k + 1)) = #[.int .i64 (bumpN n e0 0), .int .i64 (bumpN n e0 1), .int .i64 (bumpN n e0 2), .int .i64 (bumpN n e0 3), .int .i64 (bumpN n e0 4), .int .i64 (bumpN n e0 5), .int .i64 (bumpN n e0 6), .int .i64 (bumpN n e0 7), .int .i64 (bumpN n e0 8), .int .i64 (bumpN n e0 9)] := by
  have hc : k = 0 ∨ k = 1 ∨ k = 2 ∨ k = 3 ∨ k = 4 ∨ k = 5 ∨ k = 6 ∨ k = 7 ∨ k = 8 ∨ k = 9 := by omega
  rcases hc with rfl | rfl | rfl | rfl | rfl | rfl | rfl | rfl | rfl | rfl <;> simp [bumpN, hk]
set_option maxRecDepth 100000 in
set_option maxHeartbeats 6400000 in
theorem jcount_any (n : Nat → Int) (hn : ∀ k, 0 ≤ n k ∧ n k ≤ 1000000) (e0 : Int) (h0 : -9223372036854775808 ≤ e0) (h1 : e0 ≤ 9223372036854775807) (w : World) :
    Calls Try.prog 9 #[tenV n, .int .i64 e0] w fun e w' => e = .returned (tenV (bumpN n e0)) ∧ Below w.heap.size w w' := by
  have c := jcause_any e0 h0 h1
  obtain ⟨k, hk, hk10⟩ : ∃ k : Nat, causeI e0 = k ∧ k < 10 := by have := cause_in e0; exact ⟨(causeI e0).toNat, by omega, by omega⟩
  have hset := bump_at n e0 k hk hk10
  have hnk := hn k
  have hwr : IntKind.i64.wrap (n k + 1) = n k + 1 := by rw [IntKind.wrap_i64]; omega
  have hB : Below w.heap.size w ((w.alloc (.cells #[.int .i64 (n 0), .int .i64 (n 1), .int .i64 (n 2), .int .i64 (n 3), .int .i64 (n 4), .int .i64 (n 5), .int .i64 (n 6), .int .i64 (n 7), .int .i64 (n 8), .int .i64 (n 9)] 38)).alloc (.cells #[.int .i64 0, .int .i64 0, .int .i64 0, .int .i64 0, .int .i64 0, .int .i64 0, .int .i64 0, .int .i64 0, .int .i64 0, .int .i64 0] 38)) := ((Below.refl _ _).alloc (Nat.le_refl _) _).alloc (by simp) _
  have zc : ((w.alloc (.cells #[.int .i64 (n 0), .int .i64 (n 1), .int .i64 (n 2), .int .i64 (n 3), .int .i64 (n 4), .int .i64 (n 5), .int .i64 (n 6), .int .i64 (n 7), .int .i64 (n 8), .int .i64 (n 9)] 38)).alloc (.cells #[.int .i64 0, .int .i64 0, .int .i64 0, .int .i64 0, .int .i64 0, .int .i64 0, .int .i64 0, .int .i64 0, .int .i64 0, .int .i64 0] 38)).heap[w.heap.size]? = some (.cells #[.int .i64 (n 0), .int .i64 (n 1), .int .i64 (n 2), .int .i64 (n 3), .int .i64 (n 4), .int .i64 (n 5), .int .i64 (n 6), .int .i64 (n 7), .int .i64 (n 8), .int .i64 (n 9)] 38 (0, 0)) := laid _ (heap_alloc_new w _)
  have zr : ((w.alloc (.cells #[.int .i64 (n 0), .int .i64 (n 1), .int .i64 (n 2), .int .i64 (n 3), .int .i64 (n 4), .int .i64 (n 5), .int .i64 (n 6), .int .i64 (n 7), .int .i64 (n 8), .int .i64 (n 9)] 38)).alloc (.cells #[.int .i64 0, .int .i64 0, .int .i64 0, .int .i64 0, .int .i64 0, .int .i64 0, .int .i64 0, .int .i64 0, .int .i64 0, .int .i64 0] 38)).heap[w.heap.size + 1]? = some (.cells #[.int .i64 0, .int .i64 0, .int .i64 0, .int .i64 0, .int .i64 0, .int .i64 0, .int .i64 0, .int .i64 0, .int .i64 0, .int .i64 0] 38 (0, 0)) := by
    have := heap_alloc_new (w.alloc (.cells #[.int .i64 (n 0), .int .i64 (n 1), .int .i64 (n 2), .int .i64 (n 3), .int .i64 (n 4), .int .i64 (n 5), .int .i64 (n 6), .int .i64 (n 7), .int .i64 (n 8), .int .i64 (n 9)] 38)) (.cells #[.int .i64 0, .int .i64 0, .int .i64 0, .int .i64 0, .int .i64 0, .int .i64 0, .int .i64 0, .int .i64 0, .int .i64 0, .int .i64 0] 38)
    simpa [World.size_alloc] using this
  rw [hk] at c
  clear hk hn
  unfold tenV
  generalize bumpN n e0 = m at *
  go_enter Try.func9, Try.ntmps9
  go_upto_region 1 with fail
  generalize ((w.alloc (.cells #[.int .i64 (n 0), .int .i64 (n 1), .int .i64 (n 2), .int .i64 (n 3), .int .i64 (n 4), .int .i64 (n 5), .int .i64 (n 6), .int .i64 (n 7), .int .i64 (n 8), .int .i64 (n 9)] 38)).alloc (.cells #[.int .i64 0, .int .i64 0, .int .i64 0, .int .i64 0, .int .i64 0, .int .i64 0, .int .i64 0, .int .i64 0, .int .i64 0, .int .i64 0] 38)) = w1 at *
  go_wp2_with fail
  (with_reducible refine (c _).mono ?_)
  rintro e w2 ⟨rfl, hb2⟩
  have zc2 := kept zc hb2
  have zr2 := kept zr hb2
  have HB := Lib.hid (hB.trans (hb2.mono hB.size))
  have y := ten_nth zc2 hk10
  have f1 := ten_thaw zc2
  have E1 := block_set k (.int .i64 (n k + 1)) zc2
  rw [hset] at E1
  have E2 := (block_far (b := w.heap.size) k (.int .i64 (n k + 1)) (show w.heap.size + 1 ≠ w.heap.size by omega)).trans zr2
  have EE := Lib.hid (And.intro E1 (And.intro E2 (HB.out.setCell (p := ⟨w.heap.size, k, none⟩) (Nat.le_refl _) (.int .i64 (n k + 1)))))
  clear zc zr hb2 c zc2 zr2 hset E1 E2 HB hB
  go_upto_region 2 with fail
  obtain ⟨E1, E2, EB⟩ := EE.out
  clear EE y f1
  generalize w2.setCell ⟨w.heap.size, k, none⟩ (.int .i64 (n k + 1)) = w3 at *
  obtain ⟨q0, q1, q2, q3, q4, q5, q6, q7, q8, q9⟩ := ten_in E1
  obtain ⟨r0, r1, r2, r3, r4, r5, r6, r7, r8, r9⟩ := ten_in E2
  have f2 := ten_thaw E2
  have T3 := tenPut_at (a0 := .int .i64 (m 0)) (a1 := .int .i64 (m 1)) (a2 := .int .i64 (m 2)) (a3 := .int .i64 (m 3)) (a4 := .int .i64 (m 4)) (a5 := .int .i64 (m 5)) (a6 := .int .i64 (m 6)) (a7 := .int .i64 (m 7)) (a8 := .int .i64 (m 8)) (a9 := .int .i64 (m 9)) E2
  have T4 := tenPut_below (.int .i64 (m 0)) (.int .i64 (m 1)) (.int .i64 (m 2)) (.int .i64 (m 3)) (.int .i64 (m 4)) (.int .i64 (m 5)) (.int .i64 (m 6)) (.int .i64 (m 7)) (.int .i64 (m 8)) (.int .i64 (m 9)) EB (show w.heap.size ≤ w.heap.size + 1 by omega)
  unfold tenPut at T3 T4
  have TT := Lib.hid (And.intro T3 T4)
  clear T3 T4 E1 E2 EB
  go_wp2_with fail
  obtain ⟨t0, t1, t2, t3, t4, t5, t6, t7, t8, t9⟩ := ten_in TT.out.1
  refine bodyPost_ret (v := .agg #[.int .i64 (m 0), .int .i64 (m 1), .int .i64 (m 2), .int .i64 (m 3), .int .i64 (m 4), .int .i64 (m 5), .int .i64 (m 6), .int .i64 (m 7), .int .i64 (m 8), .int .i64 (m 9)]) ?_ rfl ?_
  · simp [results, Try.results9, go_sem, t0, t1, t2, t3, t4, t5, t6, t7, t8, t9]
  · exact ⟨rfl, TT.out.2⟩
end Go.Proofs.Ytjelbpibofngiaa.W
