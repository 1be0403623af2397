/- Layer 16's own code, walked: which of two edges stands ahead. -/
import Derived.Test.YtkbjmcgnjhpkiaaMwA
import Derived.Test.YtkbjmcgnjhpkiaaSlA
import Derived.Test.YtkbjmcgnjhpkiaaWdefs
import Derived.Test.YtkbjmcgnjhpkiaaChecked
import Derived.WalkKit
import Derived.OwnWalk
import Derived.BigQuiet
import Derived.Lib.Hide
import Derived.Lib.QuietBelow
import Derived.Deep.DeepCutAuto
import Derived.Deep.RegionHeld3
import Derived.Sort.Grow
namespace Go.Proofs.Ytkbjmcgnjhpkiaa.W
open Go.RowKit Go.Sort
set_option linter.unusedVariables false
set_option linter.unusedSimpArgs false
def cmpM (x y : Int) : Int := if x < y then -1 else if y < x then 1 else 0
def orM (x y : Int) : Int := if x = 0 then y else x
def ordE (a b : Eg) : Int := orM (cmpM a.at_ b.at_) (cmpM a.sd b.sd)
theorem two_at16 {w : World} {p : Nat} {a b : Value} {t : TypeId} (h : w.heap[p]? = some (.cells #[a, b] t (0, 0))) : w.cell? ⟨p, 0, none⟩ = some a ∧ w.cell? ⟨p, 1, none⟩ = some b ∧ ∀ i, w.frozen? ⟨p, i, none⟩ = false := by
  refine ⟨?_, ?_, ?_⟩ <;> simp [World.cell?, World.frozen?, h]
theorem one_at16 {w : World} {p : Nat} {a : Value} {t : TypeId} (h : w.heap[p]? = some (.cells #[a] t (0, 0))) : w.cell? ⟨p, 0, none⟩ = some a ∧ w.frozen? ⟨p, 0, none⟩ = false := by
  refine ⟨?_, ?_⟩ <;> simp [World.cell?, World.frozen?, h]
theorem three_at16 {w : World} {p : Nat} {a b c : Value} {t : TypeId} (h : w.heap[p]? = some (.cells #[a, b, c] t (0, 0))) : w.cell? ⟨p, 0, none⟩ = some a ∧ w.cell? ⟨p, 1, none⟩ = some b ∧ w.cell? ⟨p, 2, none⟩ = some c ∧ ∀ i, w.frozen? ⟨p, i, none⟩ = false := by
  refine ⟨?_, ?_, ?_, ?_⟩ <;> simp [World.cell?, World.frozen?, h]
set_option maxHeartbeats 800000 in
theorem mnan64_any (x : Int) (w : World) : Calls Try.prog 51 #[.int .i64 x] w fun e w' => e = .returned (.bool false) ∧ w = w' := by
  go_enter Try.func51, Try.ntmps51
  go_wp2
  go_ret
  exact ⟨by simp, rfl⟩
set_option maxHeartbeats 800000 in
theorem mnan_any (x : Int) (w : World) : Calls Try.prog 52 #[.int .i64 x] w fun e w' => e = .returned (.bool false) ∧ w = w' := by
  go_enter Try.func52, Try.ntmps52
  go_wp2
  go_ret
  exact ⟨by simp, rfl⟩
set_option maxHeartbeats 1600000 in
theorem mcmp64_any (x y : Int) (w : World) : Calls Try.prog 39 #[.int .i64 x, .int .i64 y] w fun e w' => e = .returned (.int .i64 (cmpM x y)) ∧ w = w' := by
  have n := mnan64_any
  unfold cmpM
  by_cases h1 : x < y
  · go_enter Try.func39, Try.ntmps39
    go_wp2_with (go_at_call 51; refine (n _ _).mono ?_; rintro e w' ⟨rfl, rfl⟩)
    go_ret
    exact ⟨by simp [h1], rfl⟩
  · by_cases h2 : y < x
    · go_enter Try.func39, Try.ntmps39
      go_wp2_with (go_at_call 51; refine (n _ _).mono ?_; rintro e w' ⟨rfl, rfl⟩)
      go_ret
      exact ⟨by simp [h1, h2], rfl⟩
    · go_enter Try.func39, Try.ntmps39
      go_wp2_with (go_at_call 51; refine (n _ _).mono ?_; rintro e w' ⟨rfl, rfl⟩)
      go_ret
      exact ⟨by simp [h1, h2], rfl⟩
set_option maxHeartbeats 1600000 in
theorem mcmp_any (x y : Int) (w : World) : Calls Try.prog 40 #[.int .i64 x, .int .i64 y] w fun e w' => e = .returned (.int .i64 (cmpM x y)) ∧ w = w' := by
  have n := mnan_any
  unfold cmpM
  by_cases h1 : x < y
  · go_enter Try.func40, Try.ntmps40
    go_wp2_with (go_at_call 52; refine (n _ _).mono ?_; rintro e w' ⟨rfl, rfl⟩)
    go_ret
    exact ⟨by simp [h1], rfl⟩
  · by_cases h2 : y < x
    · go_enter Try.func40, Try.ntmps40
      go_wp2_with (go_at_call 52; refine (n _ _).mono ?_; rintro e w' ⟨rfl, rfl⟩)
      go_ret
      exact ⟨by simp [h1, h2], rfl⟩
    · go_enter Try.func40, Try.ntmps40
      go_wp2_with (go_at_call 52; refine (n _ _).mono ?_; rintro e w' ⟨rfl, rfl⟩)
      go_ret
      exact ⟨by simp [h1, h2], rfl⟩
set_option maxHeartbeats 1600000 in
theorem mor_any (x y : Int) (b cap : Nat) (w : World) (h0 : w.cell? ⟨b, 0, none⟩ = some (.int .i64 x)) (h1 : w.cell? ⟨b, 1, none⟩ = some (.int .i64 y)) :
    Calls Try.prog 38 #[.slice (some ⟨b, 0, none⟩) 2 cap] w fun e w' => e = .returned (.int .i64 (orM x y)) ∧ w = w' := by
  unfold orM
  by_cases hx : x = 0
  · subst hx
    by_cases hy : y = 0
    · subst hy
      go_enter Try.func38, Try.ntmps38
      go_wp2
      refine wp_loop_rounds 3 ?_
      rw [rounds_succ]
      go_wp2_with fail
      rw [rounds_succ]
      go_wp2_with fail
      rw [rounds_succ]
      go_wp2_with fail
      go_ret
      exact ⟨by simp, rfl⟩
    · go_enter Try.func38, Try.ntmps38
      go_wp2
      refine wp_loop_rounds 3 ?_
      rw [rounds_succ]
      go_wp2_with fail
      rw [rounds_succ]
      go_wp2_with fail
      go_ret
      exact ⟨by simp, rfl⟩
  · go_enter Try.func38, Try.ntmps38
    go_wp2
    refine wp_loop_rounds 3 ?_
    rw [rounds_succ]
    go_wp2_with fail
    go_ret
    exact ⟨by simp [hx], rfl⟩
set_option maxHeartbeats 6400000 in
theorem mcompare_any (x y : Eg) (w : World) : Calls Try.prog 32 #[x.val, y.val] w fun e w' => e = .returned (.int .i64 (ordE x y)) ∧ ∃ q os, w' = grow (w.drewN q) os := by
  have c1 := mcmp64_any x.at_ y.at_
  have c2 := mcmp_any x.sd y.sd
  unfold ordE
  generalize cmpM x.at_ y.at_ = u at *
  generalize cmpM x.sd y.sd = v at *
  have c3 := fun b cap w' h0 h1 => mor_any u v b cap w' h0 h1
  generalize orM u v = r at *
  have hA : (w.alloc (.cells #[.int .i64 x.at_, .int .i64 x.sd] 65)).heap[w.heap.size]? = some (.cells #[.int .i64 x.at_, .int .i64 x.sd] 65 (0, 0)) := heap_alloc_new _ _
  have hs1 : (w.alloc (.cells #[.int .i64 x.at_, .int .i64 x.sd] 65)).heap.size = w.heap.size + 1 := World.size_alloc _ _
  have hB := heap_alloc_new (w.alloc (.cells #[.int .i64 x.at_, .int .i64 x.sd] 65)) (.cells #[.int .i64 y.at_, .int .i64 y.sd] 65)
  have hA' := (Below.heap_alloc (w.alloc (.cells #[.int .i64 x.at_, .int .i64 x.sd] 65)) (.cells #[.int .i64 y.at_, .int .i64 y.sd] 65) w.heap.size (by rw [hs1]; omega)).trans hA
  rw [hs1] at hB
  have hg : ∃ os, (w.alloc (.cells #[.int .i64 x.at_, .int .i64 x.sd] 65)).alloc (.cells #[.int .i64 y.at_, .int .i64 y.sd] 65) = grow w os := ⟨_, by rw [alloc_eq_grow, alloc_eq_grow, grow_grow]⟩
  have hs2 : ((w.alloc (.cells #[.int .i64 x.at_, .int .i64 x.sd] 65)).alloc (.cells #[.int .i64 y.at_, .int .i64 y.sd] 65)).heap.size = w.heap.size + 1 + 1 := by rw [World.size_alloc, hs1]
  clear hA hs1
  unfold Eg.val
  go_enter Try.func32, Try.ntmps32
  go_wp2_with fail
  generalize (w.alloc (.cells #[.int .i64 x.at_, .int .i64 x.sd] 65)).alloc (.cells #[.int .i64 y.at_, .int .i64 y.sd] 65) = w2 at *
  obtain ⟨x0, x3, _⟩ := two_at16 hA'
  obtain ⟨y0, y3, _⟩ := two_at16 hB
  have H := Lib.hid hg
  have b0 : (w2.alloc (.cells #[.int .i64 u, .int .i64 v] 3)).drew.cell? ⟨w2.heap.size, 0, none⟩ = some (.int .i64 u) := by simp [go_sem]
  have b1 : (w2.alloc (.cells #[.int .i64 u, .int .i64 v] 3)).drew.cell? ⟨w2.heap.size, 1, none⟩ = some (.int .i64 v) := by simp [go_sem]
  have kp : ∀ k o, k < w2.heap.size → (w2.alloc (.cells #[.int .i64 u, .int .i64 v] 3)).drew.cell? ⟨k, o, none⟩ = w2.cell? ⟨k, o, none⟩ := fun k o hk => cell_same (Below.heap_alloc w2 _ k hk) o
  have l0 := (Array.getElem?_eq_some_iff.1 hA').1
  have l1 := (Array.getElem?_eq_some_iff.1 hB).1
  have x0' := (kp _ 0 l0).trans x0
  have x3' := (kp _ 1 l0).trans x3
  have y0' := (kp _ 0 l1).trans y0
  have y3' := (kp _ 1 l1).trans y3
  clear hA' hB hg hs2
  go_region_held3 (fun w' => w'.cell? ⟨w.heap.size, 0, none⟩ = some (.int .i64 x.at_) ∧ w'.cell? ⟨w.heap.size, 1, none⟩ = some (.int .i64 x.sd) ∧ w'.cell? ⟨w.heap.size + 1, 0, none⟩ = some (.int .i64 y.at_) ∧ w'.cell? ⟨w.heap.size + 1, 1, none⟩ = some (.int .i64 y.sd))
    (first | exact ⟨x0, x3, y0, y3⟩ | exact ⟨x0', x3', y0', y3'⟩)
    (first | (go_at_call 39; refine (c1 _).mono ?_; rintro e w' ⟨rfl, rfl⟩) | (go_at_call 40; refine (c2 _).mono ?_; rintro e w' ⟨rfl, rfl⟩) | (go_at_call 38; refine (c3 _ _ _ b0 b1).mono ?_; rintro e w' ⟨rfl, rfl⟩))
  go_wp2_with fail
  go_ret
  obtain ⟨os, ho⟩ := H.out
  exact ⟨rfl, 1, os ++ #[.cells #[.int .i64 u, .int .i64 v] 3], by rw [ho, alloc_eq_grow, grow_grow]; rfl⟩
end Go.Proofs.Ytkbjmcgnjhpkiaa.W
