/- Layer 13's own code, walked: gaps of four times, sums of two and of three terms, their mean, whether one goes back. -/
import Derived.Test.YtlpcoaohgcgkiaaGreatSmA
import Derived.Test.YtlpcoaohgcgkiaaGreatCkD
import Derived.Test.YtlpcoaohgcgkiaaGreatEraA
import Derived.Test.YtlpcoaohgcgkiaaGreatFixB
import Derived.Test.YtlpcoaohgcgkiaaGreatFixC
import Derived.Test.YtlpcoaohgcgkiaaGreatFixD
import Derived.Test.YtlpcoaohgcgkiaaGreatFixH
import Derived.Test.YtlpcoaohgcgkiaaGreatQtB
import Derived.Test.YtlpcoaohgcgkiaaGreatChecked
import Derived.WalkKit
import Derived.WalkSpells
import Derived.Lib.Hide
import Derived.Lib.QuietBelow
import Derived.Handy
namespace Go.Proofs.YtlpcoaohgcgkiaaGreat.W
open Go.RowKit Go.Sort
set_option linter.unusedVariables false
set_option linter.unusedSimpArgs false
abbrev tmC (o r x b : Int) : Array Value := #[.int .u64 o, .int .u64 r, .int .u64 x, .int .u64 b]
structure Four (o r x b : Int) : Prop where
  o : 0 ≤ o ∧ o < 18446744073709551616
  r : 0 ≤ r ∧ r < 18446744073709551616
  x : 0 ≤ x ∧ x < 18446744073709551616
  b : 0 ≤ b ∧ b < 18446744073709551616
set_option maxHeartbeats 1600000 in
theorem sthere_any (o r x b : Int) (t : Four o r x b) (w : World) : Calls Tryz.prog 18 #[.agg (tmC o r x b)] w fun e w' => e = .returned (.int .i64 (dfI r o)) ∧ Below w.heap.size w w' := by
  have c := df_any r o t.r.1 t.r.2 t.o.1 t.o.2
  generalize dfI r o = d at *
  unfold tmC
  have hA := (Below.refl w.heap.size w).alloc (Nat.le_refl _) (.cells (tmC o r x b) 47)
  go_enter Tryz.func18, Tryz.ntmps18
  go_wp2_with fail
  (with_reducible refine (c _).mono ?_)
  rintro e w1 ⟨rfl, hB⟩
  go_wp2_with fail
  go_ret
  exact ⟨rfl, hA.trans (hB.mono hA.size)⟩
set_option maxHeartbeats 1600000 in
theorem shome_any (o r x b : Int) (t : Four o r x b) (w : World) : Calls Tryz.prog 19 #[.agg (tmC o r x b)] w fun e w' => e = .returned (.int .i64 (dfI x b)) ∧ Below w.heap.size w w' := by
  have c := df_any x b t.x.1 t.x.2 t.b.1 t.b.2
  generalize dfI x b = d at *
  unfold tmC
  have hA := (Below.refl w.heap.size w).alloc (Nat.le_refl _) (.cells (tmC o r x b) 47)
  go_enter Tryz.func19, Tryz.ntmps19
  go_wp2_with fail
  (with_reducible refine (c _).mono ?_)
  rintro e w1 ⟨rfl, hB⟩
  go_wp2_with fail
  go_ret
  exact ⟨rfl, hA.trans (hB.mono hA.size)⟩
set_option maxHeartbeats 1600000 in
theorem saway_any (o r x b : Int) (t : Four o r x b) (w : World) : Calls Tryz.prog 15 #[.agg (tmC o r x b)] w fun e w' => e = .returned (.int .i64 (dfI b o)) ∧ Below w.heap.size w w' := by
  have c := df_any b o t.b.1 t.b.2 t.o.1 t.o.2
  generalize dfI b o = d at *
  unfold tmC
  have hA := (Below.refl w.heap.size w).alloc (Nat.le_refl _) (.cells (tmC o r x b) 47)
  go_enter Tryz.func15, Tryz.ntmps15
  go_wp2_with fail
  (with_reducible refine (c _).mono ?_)
  rintro e w1 ⟨rfl, hB⟩
  go_wp2_with fail
  go_ret
  exact ⟨rfl, hA.trans (hB.mono hA.size)⟩
set_option maxHeartbeats 1600000 in
theorem sstay_any (o r x b : Int) (t : Four o r x b) (w : World) : Calls Tryz.prog 16 #[.agg (tmC o r x b)] w fun e w' => e = .returned (.int .i64 (dfI x r)) ∧ Below w.heap.size w w' := by
  have c := df_any x r t.x.1 t.x.2 t.r.1 t.r.2
  generalize dfI x r = d at *
  unfold tmC
  have hA := (Below.refl w.heap.size w).alloc (Nat.le_refl _) (.cells (tmC o r x b) 47)
  go_enter Tryz.func16, Tryz.ntmps16
  go_wp2_with fail
  (with_reducible refine (c _).mono ?_)
  rintro e w1 ⟨rfl, hB⟩
  go_wp2_with fail
  go_ret
  exact ⟨rfl, hA.trans (hB.mono hA.size)⟩
set_option maxHeartbeats 1600000 in
theorem ssum1 (a t : Int) (b cap : Nat) (n0 : -9223372036854775808 ≤ a) (n1 : a ≤ 9223372036854775807) (t0 : -9223372036854775808 ≤ t) (t1 : t ≤ 9223372036854775807) (w : World) (hc : w.cell? ⟨b, 0, none⟩ = some (.int .i64 t)) :
    Calls Tryz.prog 22 #[.int .i64 a, .slice (some ⟨b, 0, none⟩) 1 cap] w fun e w' => e = .returned (.int .i64 (addI a t)) ∧ w = w' := by
  have c := add_any a t n0 n1 t0 t1
  generalize addI a t = r at *
  go_enter Tryz.func22, Tryz.ntmps22
  go_wp2_with fail
  refine wp_loop_rounds 2 ?_
  rw [rounds_succ]
  go_wp2_with fail
  (with_reducible refine (c _).mono ?_)
  rintro e w1 ⟨rfl, rfl⟩
  go_wp2_with fail
  rw [rounds_succ]
  go_wp2_with fail
  go_ret
  exact ⟨rfl, rfl⟩
set_option maxHeartbeats 1600000 in
theorem ssum2 (a t u : Int) (b cap : Nat) (n0 : -9223372036854775808 ≤ a) (n1 : a ≤ 9223372036854775807) (t0 : -9223372036854775808 ≤ t) (t1 : t ≤ 9223372036854775807) (u0 : -9223372036854775808 ≤ u) (u1 : u ≤ 9223372036854775807) (w : World) (hc : w.cell? ⟨b, 0, none⟩ = some (.int .i64 t)) (hd : w.cell? ⟨b, 1, none⟩ = some (.int .i64 u)) :
    Calls Tryz.prog 22 #[.int .i64 a, .slice (some ⟨b, 0, none⟩) 2 cap] w fun e w' => e = .returned (.int .i64 (addI (addI a t) u)) ∧ w = w' := by
  have c := add_any a t n0 n1 t0 t1
  have ⟨r0, r1⟩ := addI_range a t
  have d := add_any (addI a t) u (by omega) r1 u0 u1
  generalize addI (addI a t) u = q at *
  generalize addI a t = r at *
  go_enter Tryz.func22, Tryz.ntmps22
  go_wp2_with fail
  refine wp_loop_rounds 3 ?_
  rw [rounds_succ]
  go_wp2_with fail
  (with_reducible refine (c _).mono ?_)
  rintro e w1 ⟨rfl, rfl⟩
  go_wp2_with fail
  rw [rounds_succ]
  go_wp2_with fail
  (with_reducible refine (d _).mono ?_)
  rintro e w1 ⟨rfl, rfl⟩
  go_wp2_with fail
  rw [rounds_succ]
  go_wp2_with fail
  go_ret
  exact ⟨rfl, rfl⟩
abbrev gapV (k : Nat) (o r x b : Int) : Value := .func (.func k) #[.agg (tmC o r x b)] #[]
set_option maxRecDepth 100000 in
set_option maxHeartbeats 3200000 in
theorem sback2 (o r x b : Int) (t : Four o r x b) (p cap : Nat) (w : World) (hp : p < w.heap.size) (h0 : w.cell? ⟨p, 0, none⟩ = some (gapV 15 o r x b)) (h1 : w.cell? ⟨p, 1, none⟩ = some (gapV 16 o r x b)) :
    Calls Tryz.prog 14 #[.slice (some ⟨p, 0, none⟩) 2 cap] w fun e w' => e = .returned (.bool (decide (dfI b o < 0 ∨ dfI x r < 0))) ∧ Below w.heap.size w w' := by
  have c1 := saway_any o r x b t
  have c2 := sstay_any o r x b t
  generalize dfI b o = d at *
  generalize dfI x r = e0 at *
  unfold gapV at *
  by_cases g : d < 0
  · have g' : decide (d < 0) = true := by simpa using g
    go_enter Tryz.func14, Tryz.ntmps14
    go_wp2_with fail
    refine wp_loop_rounds 2 ?_
    rw [rounds_succ]
    go_wp2_with fail
    (with_reducible refine (c1 _).mono ?_)
    rintro e w1 ⟨rfl, hB⟩
    go_wp2_with fail
    go_ret
    exact ⟨by simp [g], hB⟩
  · have g' : decide (d < 0) = false := by simpa using g
    go_enter Tryz.func14, Tryz.ntmps14
    go_wp2_with fail
    refine wp_loop_rounds 3 ?_
    rw [rounds_succ]
    go_wp2_with fail
    (with_reducible refine (c1 _).mono ?_)
    rintro e w1 ⟨rfl, hB⟩
    have k1 : w1.cell? ⟨p, 1, none⟩ = some _ := (hB.cell hp).trans h1
    clear h0 h1
    go_wp2_with fail
    rw [rounds_succ]
    go_wp2_with fail
    (with_reducible refine (c2 _).mono ?_)
    rintro e w2 ⟨rfl, hB2⟩
    have hB3 := hB.trans (hB2.mono hB.size)
    by_cases f : e0 < 0
    · have f' : decide (e0 < 0) = true := by simpa using f
      go_wp2_with fail
      go_ret
      exact ⟨by simp [f], hB3⟩
    · have f' : decide (e0 < 0) = false := by simpa using f
      go_wp2_with fail
      rw [rounds_succ]
      go_wp2_with fail
      go_ret
      exact ⟨by simp [g, f], hB3⟩
theorem make_two (w : World) : (Instr.makeSlice 57 (.int .i64 0) (.int .i64 2)).run Tryz.prog w = .ok (.slice (some ⟨w.heap.size, 0, none⟩) 0 2) (w.alloc (.cells #[.int .i64 0, .int .i64 0] 2)) := by kernel_rfl
theorem two_thaw {w : World} {p : Nat} {a b : Value} {t : TypeId} (h : w.heap[p]? = some (.cells #[a, b] t (0, 0))) : w.cell? ⟨p, 0, none⟩ = some a ∧ w.cell? ⟨p, 1, none⟩ = some b ∧ w.frozen? ⟨p, 0, none⟩ = false ∧ w.frozen? ⟨p, 1, none⟩ = false := by
  refine ⟨?_, ?_, ?_, ?_⟩ <;> simp [World.cell?, World.frozen?, h]
set_option maxRecDepth 100000 in
set_option maxHeartbeats 3200000 in
theorem smean2 (o r x b : Int) (t : Four o r x b) (p cap : Nat) (w : World) (hp : p < w.heap.size) (h0 : w.cell? ⟨p, 0, none⟩ = some (gapV 18 o r x b)) (h1 : w.cell? ⟨p, 1, none⟩ = some (gapV 19 o r x b)) :
    Calls Tryz.prog 17 #[.slice (some ⟨p, 0, none⟩) 2 cap] w fun e w' => e = .returned (.int .i64 (meanI [dfI r o, dfI x b])) ∧ Below w.heap.size w w' := by
  have c1 := sthere_any o r x b t
  have c2 := shome_any o r x b t
  have d1 := dfI_range r o
  have d2 := dfI_range x b
  generalize dfI r o = d at *
  generalize dfI x b = e0 at *
  unfold gapV at *
  have hm := make_two w
  have B1 := (Below.refl w.heap.size w).alloc (Nat.le_refl _) (.cells #[.int .i64 0, .int .i64 0] 2)
  have z1 := heap_alloc_new w (.cells #[.int .i64 0, .int .i64 0] 2)
  generalize w.alloc (.cells #[.int .i64 0, .int .i64 0] 2) = w1 at *
  have k0 := (B1.cell hp).trans h0
  have H := Lib.hid h1
  clear h0 h1
  go_enter Tryz.func17, Tryz.ntmps17
  go_wp2_with fail
  refine wp_loop_rounds 3 ?_
  rw [rounds_succ]
  go_wp2_with fail
  (with_reducible refine (c1 _).mono ?_)
  rintro e w2 ⟨rfl, hB⟩
  have B2 := B1.trans (hB.mono B1.size)
  have y2 : (w2.alloc (.cells #[.int .i64 d] 2)).heap[w.heap.size]? = _ := laid _ (kept z1 hB)
  obtain ⟨q0, q1, q2, q3⟩ := two_thaw y2
  have B3 := (B2.alloc B2.size (.cells #[.int .i64 d] 2)).setCell (p := ⟨w.heap.size, 0, none⟩) (Nat.le_refl _) (.int .i64 d)
  have y3 := block_set 0 (.int .i64 d) y2
  have k3 := (B3.cell (p := ⟨p, 1, none⟩) hp).trans H.out
  clear k0 hB B1 hm z1 y2
  go_wp2_with fail
  rw [rounds_succ]
  go_wp2_with fail
  (with_reducible refine (c2 _).mono ?_)
  rintro e w3 ⟨rfl, hB⟩
  have B4 := B3.trans (hB.mono B3.size)
  have y4 : (w3.alloc (.cells #[.int .i64 e0] 2)).heap[w.heap.size]? = _ := laid _ (kept y3 hB)
  clear hB B3 y3 k3 q0 q1 q2 q3 B2
  simp only [List.setIfInBounds_toArray, List.set_cons_zero] at y4
  obtain ⟨q0, q1, q2, q3⟩ := two_thaw y4
  have B5 := (B4.alloc B4.size (.cells #[.int .i64 e0] 2)).setCell (p := ⟨w.heap.size, 1, none⟩) (Nat.le_refl _) (.int .i64 e0)
  have y5 := block_set 1 (.int .i64 e0) y4
  go_wp2_with fail
  rw [rounds_succ]
  simp only [List.setIfInBounds_toArray, List.set_cons_zero, List.set_cons_succ] at y5
  generalize (w3.alloc (.cells #[.int .i64 e0] 2)).setCell ⟨w.heap.size, 1, none⟩ (.int .i64 e0) = w4 at *
  clear q0 q1 q2 q3 y4 B4
  have hi : Ints w4 (some ⟨w.heap.size, 0, none⟩) [d, e0] := by
    refine .inr ⟨_, _, rfl, (Array.getElem?_eq_some_iff.1 y5).1, fun k hk => ?_⟩
    have hk : k = 0 ∨ k = 1 := by simp at hk; omega
    rcases hk with rfl | rfl
    · simp [World.cell?, y5]
    · simp [World.cell?, y5]
  have km := fmean_any [d, e0] (some ⟨w.heap.size, 0, none⟩) 2 (by intro x hx; simp at hx; omega) (by simp) w4 hi
  rw [show [d, e0].length = 2 from rfl] at km
  clear hi y5
  go_wp2_with fail
  (with_reducible refine km.mono ?_)
  rintro e w5 ⟨rfl, hB⟩
  have B6 := B5.trans (hB.mono B5.size)
  go_wp2_with fail
  go_ret
  exact ⟨rfl, B6⟩
set_option maxHeartbeats 1600000 in
theorem sraw_any (n : Int) (w : World) : Calls Tryz.prog 13 #[.int .i64 n] w fun e w' => e = .returned (.bool (decide (0 ≤ n ∧ n ≤ 4611686018427387904))) ∧ w = w' := by
  by_cases h0 : 0 ≤ n
  · by_cases h1 : n ≤ 4611686018427387904
    · go_enter Tryz.func13, Tryz.ntmps13
      go_wp2_with fail
      go_ret
      exact ⟨by simp [h0, h1], rfl⟩
    · go_enter Tryz.func13, Tryz.ntmps13
      go_wp2_with fail
      go_ret
      exact ⟨by simp [h0, h1], rfl⟩
  · have h0' : decide (0 ≤ n) = false := by simpa using h0
    go_enter Tryz.func13, Tryz.ntmps13
    go_wp2_with fail
    go_ret
    exact ⟨by simp [h0], rfl⟩
end Go.Proofs.YtlpcoaohgcgkiaaGreat.W
