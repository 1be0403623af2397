/- The code's agenda, walked: which of two items is ahead. -/
import Derived.Test.YtcnfidfpgohpoaaAgQ
import Derived.Test.YtcnfidfpgohpoaaWdefs
import Derived.WalkKit
import Derived.OwnWalk
import Derived.BigQuiet
import Derived.Lib.QuietBelow
import Derived.Deep.DeepCutAuto
import Derived.Deep.RegionHeld3
import Derived.Sort.Grow
namespace Go.Proofs.Ytcnfidfpgohpoaa.W
open Go.RowKit Go.Sort
set_option linter.unusedVariables false
set_option linter.unusedSimpArgs false
def cmpI (x y : Int) : Int := if x < y then -1 else if y < x then 1 else 0
def orI (x y : Int) : Int := if x = 0 then y else x
def ordI (x y : It) : Int := orI (cmpI x.at_ y.at_) (cmpI x.ticket y.ticket)
theorem ord_ahead (x y : It) : decide (ordI x y < 0) = ahead x y := by
  rw [Bool.eq_iff_iff, ahead_iff, decide_eq_true_iff]
  unfold ordI orI cmpI
  repeat' split
  all_goals omega
def It.valE (x : It) : Value := .agg #[.int .i64 x.at_, .int .i64 x.kind, .string (bs x.data), .int .i64 x.ticket]
theorem cmp_bounds (x y : Int) : -1 ≤ cmpI x y ∧ cmpI x y ≤ 1 := by
  unfold cmpI
  repeat' split
  all_goals omega
set_option maxHeartbeats 800000 in
theorem gnan64_any (x : Int) (w : World) : Calls Try.prog 57 #[.int .i64 x] w fun e w' => e = .returned (.bool false) ∧ w = w' := by
  go_enter Try.func57, Try.ntmps57
  go_wp2
  go_ret
  exact ⟨by simp, rfl⟩
set_option maxHeartbeats 800000 in
theorem gnan_any (x : Int) (w : World) : Calls Try.prog 58 #[.int .i64 x] w fun e w' => e = .returned (.bool false) ∧ w = w' := by
  go_enter Try.func58, Try.ntmps58
  go_wp2
  go_ret
  exact ⟨by simp, rfl⟩
set_option maxHeartbeats 1600000 in
theorem gcmp64_any (x y : Int) (w : World) : Calls Try.prog 40 #[.int .i64 x, .int .i64 y] w fun e w' => e = .returned (.int .i64 (cmpI x y)) ∧ w = w' := by
  have n := gnan64_any
  unfold cmpI
  by_cases h1 : x < y
  · go_enter Try.func40, Try.ntmps40
    go_wp2_with (go_at_call 57; refine (n _ _).mono ?_; rintro e w' ⟨rfl, rfl⟩)
    go_ret
    exact ⟨by simp [h1], rfl⟩
  · by_cases h2 : y < x
    · go_enter Try.func40, Try.ntmps40
      go_wp2_with (go_at_call 57; refine (n _ _).mono ?_; rintro e w' ⟨rfl, rfl⟩)
      go_ret
      exact ⟨by simp [h1, h2], rfl⟩
    · go_enter Try.func40, Try.ntmps40
      go_wp2_with (go_at_call 57; refine (n _ _).mono ?_; rintro e w' ⟨rfl, rfl⟩)
      go_ret
      exact ⟨by simp [h1, h2], rfl⟩
set_option maxHeartbeats 1600000 in
theorem gcmp_any (x y : Int) (w : World) : Calls Try.prog 41 #[.int .i64 x, .int .i64 y] w fun e w' => e = .returned (.int .i64 (cmpI x y)) ∧ w = w' := by
  have n := gnan_any
  unfold cmpI
  by_cases h1 : x < y
  · go_enter Try.func41, Try.ntmps41
    go_wp2_with (go_at_call 58; refine (n _ _).mono ?_; rintro e w' ⟨rfl, rfl⟩)
    go_ret
    exact ⟨by simp [h1], rfl⟩
  · by_cases h2 : y < x
    · go_enter Try.func41, Try.ntmps41
      go_wp2_with (go_at_call 58; refine (n _ _).mono ?_; rintro e w' ⟨rfl, rfl⟩)
      go_ret
      exact ⟨by simp [h1, h2], rfl⟩
    · go_enter Try.func41, Try.ntmps41
      go_wp2_with (go_at_call 58; refine (n _ _).mono ?_; rintro e w' ⟨rfl, rfl⟩)
      go_ret
      exact ⟨by simp [h1, h2], rfl⟩
set_option maxHeartbeats 1600000 in
theorem gor_any (x y : Int) (b cap : Nat) (w : World) (h0 : w.cell? ⟨b, 0, none⟩ = some (.int .i64 x)) (h1 : w.cell? ⟨b, 1, none⟩ = some (.int .i64 y)) :
    Calls Try.prog 39 #[.slice (some ⟨b, 0, none⟩) 2 cap] w fun e w' => e = .returned (.int .i64 (orI x y)) ∧ w = w' := by
  unfold orI
  by_cases hx : x = 0
  · subst hx
    by_cases hy : y = 0
    · subst hy
      go_enter Try.func39, Try.ntmps39
      go_wp2
      refine wp_loop_rounds 3 ?_
      rw [rounds_succ]
      go_wp2_with fail
      rw [rounds_succ]
      go_wp2_with fail
      rw [rounds_succ]
      go_wp2_with fail
      go_ret
      exact ⟨by simp, rfl⟩
    · go_enter Try.func39, Try.ntmps39
      go_wp2
      refine wp_loop_rounds 3 ?_
      rw [rounds_succ]
      go_wp2_with fail
      rw [rounds_succ]
      go_wp2_with fail
      go_ret
      exact ⟨by simp, rfl⟩
  · go_enter Try.func39, Try.ntmps39
    go_wp2
    refine wp_loop_rounds 3 ?_
    rw [rounds_succ]
    go_wp2_with fail
    go_ret
    exact ⟨by simp [hx], rfl⟩
set_option maxHeartbeats 6400000 in
theorem gorder_any (x y : It) (w : World) : Calls Try.prog 31 #[x.valE, y.valE] w fun e w' => e = .returned (.int .i64 (ordI x y)) ∧ ∃ q os, w' = grow (w.drewN q) os := by
  have c1 := gcmp64_any x.at_ y.at_
  have c2 := gcmp_any x.ticket y.ticket
  unfold ordI
  generalize cmpI x.at_ y.at_ = u at *
  generalize cmpI x.ticket y.ticket = v at *
  have c3 := fun b cap w' h0 h1 => gor_any u v b cap w' h0 h1
  generalize orI u v = r at *
  have hA : (w.alloc (.cells #[.int .i64 x.at_, .int .i64 x.kind, .string (bs x.data), .int .i64 x.ticket] 39)).heap[w.heap.size]? = some (.cells #[.int .i64 x.at_, .int .i64 x.kind, .string (bs x.data), .int .i64 x.ticket] 39 (0, 0)) := heap_alloc_new _ _
  have hs1 : (w.alloc (.cells #[.int .i64 x.at_, .int .i64 x.kind, .string (bs x.data), .int .i64 x.ticket] 39)).heap.size = w.heap.size + 1 := World.size_alloc _ _
  have hB := heap_alloc_new (w.alloc (.cells #[.int .i64 x.at_, .int .i64 x.kind, .string (bs x.data), .int .i64 x.ticket] 39)) (.cells #[.int .i64 y.at_, .int .i64 y.kind, .string (bs y.data), .int .i64 y.ticket] 39)
  have hA' := (Below.heap_alloc (w.alloc (.cells #[.int .i64 x.at_, .int .i64 x.kind, .string (bs x.data), .int .i64 x.ticket] 39)) (.cells #[.int .i64 y.at_, .int .i64 y.kind, .string (bs y.data), .int .i64 y.ticket] 39) w.heap.size (by rw [hs1]; omega)).trans hA
  rw [hs1] at hB
  have hg : ∃ os, (w.alloc (.cells #[.int .i64 x.at_, .int .i64 x.kind, .string (bs x.data), .int .i64 x.ticket] 39)).alloc (.cells #[.int .i64 y.at_, .int .i64 y.kind, .string (bs y.data), .int .i64 y.ticket] 39) = grow w os := ⟨_, by rw [alloc_eq_grow, alloc_eq_grow, grow_grow]⟩
  have hs2 : ((w.alloc (.cells #[.int .i64 x.at_, .int .i64 x.kind, .string (bs x.data), .int .i64 x.ticket] 39)).alloc (.cells #[.int .i64 y.at_, .int .i64 y.kind, .string (bs y.data), .int .i64 y.ticket] 39)).heap.size = w.heap.size + 1 + 1 := by rw [World.size_alloc, hs1]
  clear hA hs1
  unfold It.valE
  go_enter Try.func31, Try.ntmps31
  go_wp2_with fail
  generalize (w.alloc (.cells #[.int .i64 x.at_, .int .i64 x.kind, .string (bs x.data), .int .i64 x.ticket] 39)).alloc (.cells #[.int .i64 y.at_, .int .i64 y.kind, .string (bs y.data), .int .i64 y.ticket] 39) = w2 at *
  obtain ⟨x0, _, _, x3⟩ := four_cells hA'
  obtain ⟨y0, _, _, y3⟩ := four_cells hB
  have H := Lib.hid hg
  have b0 : (w2.alloc (.cells #[.int .i64 u, .int .i64 v] 3)).drew.cell? ⟨w2.heap.size, 0, none⟩ = some (.int .i64 u) := by simp [go_sem]
  have b1 : (w2.alloc (.cells #[.int .i64 u, .int .i64 v] 3)).drew.cell? ⟨w2.heap.size, 1, none⟩ = some (.int .i64 v) := by simp [go_sem]
  have kp : ∀ k o, k < w2.heap.size → (w2.alloc (.cells #[.int .i64 u, .int .i64 v] 3)).drew.cell? ⟨k, o, none⟩ = w2.cell? ⟨k, o, none⟩ := fun k o hk => cell_same (Below.heap_alloc w2 _ k hk) o
  have l0 := (Array.getElem?_eq_some_iff.1 hA').1
  have l1 := (Array.getElem?_eq_some_iff.1 hB).1
  have x0' := (kp _ 0 l0).trans x0
  have x3' := (kp _ 3 l0).trans x3
  have y0' := (kp _ 0 l1).trans y0
  have y3' := (kp _ 3 l1).trans y3
  clear hA' hB hg hs2
  go_region_held3 (fun w' => w'.cell? ⟨w.heap.size, 0, none⟩ = some (.int .i64 x.at_) ∧ w'.cell? ⟨w.heap.size, 3, none⟩ = some (.int .i64 x.ticket) ∧ w'.cell? ⟨w.heap.size + 1, 0, none⟩ = some (.int .i64 y.at_) ∧ w'.cell? ⟨w.heap.size + 1, 3, none⟩ = some (.int .i64 y.ticket))
    (first | exact ⟨x0, x3, y0, y3⟩ | exact ⟨x0', x3', y0', y3'⟩)
    (first | (go_at_call 40; refine (c1 _).mono ?_; rintro e w' ⟨rfl, rfl⟩) | (go_at_call 41; refine (c2 _).mono ?_; rintro e w' ⟨rfl, rfl⟩) | (go_at_call 39; refine (c3 _ _ _ b0 b1).mono ?_; rintro e w' ⟨rfl, rfl⟩))
  go_wp2_with fail
  go_ret
  obtain ⟨os, ho⟩ := H.out
  exact ⟨rfl, 1, os ++ #[.cells #[.int .i64 u, .int .i64 v] 3], by rw [ho, alloc_eq_grow, grow_grow]; rfl⟩
theorem quiet_world8 {w w' : World} (h : ∃ p : Regrown, w' = grow (redrawn w p.d) p.os) : Below w.heap.size w w' := by
  obtain ⟨p, rfl⟩ := h
  exact below_regrown w p.d p.os
theorem below_grown9 (w : World) (q : Nat) (os : Array Obj) : Below w.heap.size w (grow (w.drewN q) os) :=
  ⟨rfl, rfl, rfl, by simp [grow, World.drewN], fun k hk => by simp [grow, World.drewN]; rw [Array.getElem?_append_left hk]⟩
theorem gorder_below (x y : It) (w : World) : Calls Try.prog 31 #[x.valE, y.valE] w fun e w' => e = .returned (.int .i64 (ordI x y)) ∧ Below w.heap.size w w' :=
  (gorder_any x y w).mono fun e w' ⟨he, q, os, hw⟩ => ⟨he, by rw [hw]; exact below_grown9 w q os⟩
set_option maxHeartbeats 3200000 in
theorem gahead_any {hb m : Nat} {v : Value} {h : List It} {n : Int} {i j : Nat} {a b : It} (w : World) (x : Hv w hb v m h n) (hi : h[i]? = some a) (hj : h[j]? = some b) :
    Calls Try.prog 45 #[.pointer (some ⟨hb, 0, none⟩), .int .i64 i, .int .i64 j] w fun e w' => e = .returned (.bool (ahead a b)) ∧ Below w.heap.size w w' := by
  have li := (List.getElem?_eq_some_iff.1 hi).1
  have lj := (List.getElem?_eq_some_iff.1 hj).1
  obtain ⟨g, cap, rfl⟩ := x.at_ (by omega)
  obtain ⟨p0, _, _, _⟩ := three_cells x.blk
  obtain ⟨a0, a1, a2, a3⟩ := row_cells x.row hi
  obtain ⟨b0, b1, b2, b3⟩ := row_cells x.row hj
  have li' : (i : Int) < (h.length : Int) := by omega
  have lj' : (j : Int) < (h.length : Int) := by omega
  have i0 : (0 : Int) ≤ (i : Int) := by omega
  have j0 : (0 : Int) ≤ (j : Int) := by omega
  have y := gorder_below a b
  unfold It.valE at y
  rw [← ord_ahead]
  generalize ordI a b = r at *
  clear x hi hj
  go_enter Try.func45, Try.ntmps45
  go_wp2_with fail
  have k0 := cell_regrown p0
  have k1 := cell_regrown a0
  have k2 := cell_regrown a1
  have k3 := cell_regrown a2
  have k4 := cell_regrown a3
  have k5 := cell_regrown b0
  have k6 := cell_regrown b1
  have k7 := cell_regrown b2
  have k8 := cell_regrown b3
  have d0 := fun d os => Calls.regrown_of (y (grow (redrawn w d) os))
  refine wp_region_quiet_below (by kernel_rfl) (by kernel_rfl) ?_
  repeat (quiet_step (first | (with_reducible exact d0 _ _)))
  refine wpQuiet_nil ?_
  intro w2 hw
  replace hw := quiet_world8 hw
  clear d0 k0 k1 k2 k3 k4 k5 k6 k7 k8
  go_wp2_with fail
  go_ret
  exact ⟨rfl, hw⟩
end Go.Proofs.Ytcnfidfpgohpoaa.W
