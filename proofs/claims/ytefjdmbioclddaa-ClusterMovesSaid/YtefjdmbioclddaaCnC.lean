/- Layer 17's own code, walked: which of two nodes stands ahead. -/
import Derived.Test.YtefjdmbioclddaaCnA
import Derived.Test.YtefjdmbioclddaaSlA
import Derived.Test.YtefjdmbioclddaaWdefs
import Derived.Test.YtefjdmbioclddaaQtB
import Derived.Test.YtefjdmbioclddaaChecked
import Derived.WalkKit
import Derived.OwnWalk
import Derived.BigQuiet
import Derived.Lib.Hide
import Derived.Lib.QuietBelow
import Derived.Deep.DeepCutAuto
import Derived.Deep.RegionHeld3
import Derived.Sort.Grow
namespace Go.Proofs.Ytefjdmbioclddaa.W
open Go.RowKit Go.Sort
set_option linter.unusedVariables false
set_option linter.unusedSimpArgs false
def cmpC (x y : Int) : Int := if x < y then -1 else if y < x then 1 else 0
def orC (x y : Int) : Int := if x = 0 then y else x
/-- Of places (where, how far apart, metric), as rows of three: which stands ahead. -/
def wrsC (a b : Nd) : Int := orC (cmpC a.jit b.jit) (orC (cmpC a.met b.met) (cmpC a.off b.off))
def offC17 (a b : Nd) : Int := cmpC a.off b.off
def jitC17 (a b : Nd) : Int := cmpC a.jit b.jit
set_option maxHeartbeats 800000 in
theorem kn64_any (x : Int) (w : World) : Calls Try.prog 37 #[.int .i64 x] w fun e w' => e = .returned (.bool false) ∧ w = w' := by
  go_enter Try.func37, Try.ntmps37
  go_wp2
  go_ret
  exact ⟨by simp, rfl⟩
set_option maxHeartbeats 800000 in
theorem kni_any (x : Int) (w : World) : Calls Try.prog 38 #[.int .i64 x] w fun e w' => e = .returned (.bool false) ∧ w = w' := by
  go_enter Try.func38, Try.ntmps38
  go_wp2
  go_ret
  exact ⟨by simp, rfl⟩
set_option maxHeartbeats 1600000 in
theorem kc64_any (x y : Int) (w : World) : Calls Try.prog 22 #[.int .i64 x, .int .i64 y] w fun e w' => e = .returned (.int .i64 (cmpC x y)) ∧ w = w' := by
  have n := kn64_any
  unfold cmpC
  by_cases h1 : x < y
  · go_enter Try.func22, Try.ntmps22
    go_wp2_with (go_at_call 37; refine (n _ _).mono ?_; rintro e w' ⟨rfl, rfl⟩)
    go_ret
    exact ⟨by simp [h1], rfl⟩
  · by_cases h2 : y < x
    · go_enter Try.func22, Try.ntmps22
      go_wp2_with (go_at_call 37; refine (n _ _).mono ?_; rintro e w' ⟨rfl, rfl⟩)
      go_ret
      exact ⟨by simp [h1, h2], rfl⟩
    · go_enter Try.func22, Try.ntmps22
      go_wp2_with (go_at_call 37; refine (n _ _).mono ?_; rintro e w' ⟨rfl, rfl⟩)
      go_ret
      exact ⟨by simp [h1, h2], rfl⟩
set_option maxHeartbeats 1600000 in
theorem kci_any (x y : Int) (w : World) : Calls Try.prog 23 #[.int .i64 x, .int .i64 y] w fun e w' => e = .returned (.int .i64 (cmpC x y)) ∧ w = w' := by
  have n := kni_any
  unfold cmpC
  by_cases h1 : x < y
  · go_enter Try.func23, Try.ntmps23
    go_wp2_with (go_at_call 38; refine (n _ _).mono ?_; rintro e w' ⟨rfl, rfl⟩)
    go_ret
    exact ⟨by simp [h1], rfl⟩
  · by_cases h2 : y < x
    · go_enter Try.func23, Try.ntmps23
      go_wp2_with (go_at_call 38; refine (n _ _).mono ?_; rintro e w' ⟨rfl, rfl⟩)
      go_ret
      exact ⟨by simp [h1, h2], rfl⟩
    · go_enter Try.func23, Try.ntmps23
      go_wp2_with (go_at_call 38; refine (n _ _).mono ?_; rintro e w' ⟨rfl, rfl⟩)
      go_ret
      exact ⟨by simp [h1, h2], rfl⟩
set_option maxHeartbeats 3200000 in
theorem kor_any (x y z : Int) (b cap : Nat) (w : World) (h0 : w.cell? ⟨b, 0, none⟩ = some (.int .i64 x)) (h1 : w.cell? ⟨b, 1, none⟩ = some (.int .i64 y)) (h2 : w.cell? ⟨b, 2, none⟩ = some (.int .i64 z)) :
    Calls Try.prog 21 #[.slice (some ⟨b, 0, none⟩) 3 cap] w fun e w' => e = .returned (.int .i64 (orC x (orC y z))) ∧ w = w' := by
  unfold orC
  by_cases hx : x = 0
  · subst hx
    by_cases hy : y = 0
    · subst hy
      by_cases hz : z = 0
      · subst hz
        go_enter Try.func21, Try.ntmps21
        go_wp2
        refine wp_loop_rounds 4 ?_
        rw [rounds_succ]
        go_wp2_with fail
        rw [rounds_succ]
        go_wp2_with fail
        rw [rounds_succ]
        go_wp2_with fail
        rw [rounds_succ]
        go_wp2_with fail
        go_ret
        exact ⟨by simp, rfl⟩
      · go_enter Try.func21, Try.ntmps21
        go_wp2
        refine wp_loop_rounds 4 ?_
        rw [rounds_succ]
        go_wp2_with fail
        rw [rounds_succ]
        go_wp2_with fail
        rw [rounds_succ]
        go_wp2_with fail
        go_ret
        exact ⟨by simp, rfl⟩
    · go_enter Try.func21, Try.ntmps21
      go_wp2
      refine wp_loop_rounds 4 ?_
      rw [rounds_succ]
      go_wp2_with fail
      rw [rounds_succ]
      go_wp2_with fail
      go_ret
      exact ⟨by simp [hy], rfl⟩
  · go_enter Try.func21, Try.ntmps21
    go_wp2
    refine wp_loop_rounds 4 ?_
    rw [rounds_succ]
    go_wp2_with fail
    go_ret
    exact ⟨by simp [hx], rfl⟩
theorem three_at17 {w : World} {p : Nat} {a b c : Value} {t : TypeId} (h : w.heap[p]? = some (.cells #[a, b, c] t (0, 0))) : w.cell? ⟨p, 0, none⟩ = some a ∧ w.cell? ⟨p, 1, none⟩ = some b ∧ w.cell? ⟨p, 2, none⟩ = some c ∧ ∀ i, w.frozen? ⟨p, i, none⟩ = false := by
  refine ⟨?_, ?_, ?_, ?_⟩ <;> simp [World.cell?, World.frozen?, h]
/-- Two nodes in blocks of their own. -/
theorem two_nd17 (w : World) (x y : Array Value) (t : TypeId) : ((w.alloc (.cells x t)).alloc (.cells y t)).heap[w.heap.size]? = some (.cells x t (0, 0)) ∧ ((w.alloc (.cells x t)).alloc (.cells y t)).heap[w.heap.size + 1]? = some (.cells y t (0, 0)) ∧ Below w.heap.size w ((w.alloc (.cells x t)).alloc (.cells y t)) := by
  refine ⟨laid _ (heap_alloc_new _ _), ?_, ((Below.refl w.heap.size w).alloc (Nat.le_refl _) _).alloc (by simp) _⟩
  have := heap_alloc_new (w.alloc (.cells x t)) (.cells y t)
  rwa [World.size_alloc] at this
set_option maxRecDepth 100000 in
set_option maxHeartbeats 3200000 in
theorem koff_any (x y : Nd) (w : World) : Calls Try.prog 34 #[x.val, y.val] w fun e w' => e = .returned (.int .i64 (offC17 x y)) ∧ Below w.heap.size w w' := by
  have c1 := kc64_any x.off y.off
  unfold offC17
  generalize cmpC x.off y.off = u at *
  obtain ⟨h1, h2, hB⟩ := two_nd17 w #[.int .i64 x.off, .int .i64 x.jit, .int .i64 x.met] #[.int .i64 y.off, .int .i64 y.jit, .int .i64 y.met] 40
  obtain ⟨x0, _, _, _⟩ := three_at17 h1
  obtain ⟨y0, _, _, _⟩ := three_at17 h2
  have H := Lib.hid hB
  clear h1 h2 hB
  unfold Nd.val
  go_enter Try.func34, Try.ntmps34
  go_upto_region 1 with fail
  generalize (w.alloc (.cells #[.int .i64 x.off, .int .i64 x.jit, .int .i64 x.met] 40)).alloc (.cells #[.int .i64 y.off, .int .i64 y.jit, .int .i64 y.met] 40) = w2 at *
  go_wp2_with (go_at_call 22; refine (c1 _).mono ?_; rintro e w' ⟨rfl, rfl⟩)
  go_ret
  exact ⟨rfl, H.out⟩
set_option maxRecDepth 100000 in
set_option maxHeartbeats 3200000 in
theorem kjit_any (x y : Nd) (w : World) : Calls Try.prog 39 #[x.val, y.val] w fun e w' => e = .returned (.int .i64 (jitC17 x y)) ∧ Below w.heap.size w w' := by
  have c1 := kc64_any x.jit y.jit
  unfold jitC17
  generalize cmpC x.jit y.jit = u at *
  obtain ⟨h1, h2, hB⟩ := two_nd17 w #[.int .i64 x.off, .int .i64 x.jit, .int .i64 x.met] #[.int .i64 y.off, .int .i64 y.jit, .int .i64 y.met] 40
  obtain ⟨_, x0, _, _⟩ := three_at17 h1
  obtain ⟨_, y0, _, _⟩ := three_at17 h2
  have H := Lib.hid hB
  clear h1 h2 hB
  unfold Nd.val
  go_enter Try.func39, Try.ntmps39
  go_upto_region 1 with fail
  generalize (w.alloc (.cells #[.int .i64 x.off, .int .i64 x.jit, .int .i64 x.met] 40)).alloc (.cells #[.int .i64 y.off, .int .i64 y.jit, .int .i64 y.met] 40) = w2 at *
  go_wp2_with (go_at_call 22; refine (c1 _).mono ?_; rintro e w' ⟨rfl, rfl⟩)
  go_ret
  exact ⟨rfl, H.out⟩
set_option maxRecDepth 100000 in
set_option maxHeartbeats 12800000 in
theorem kwrs_any (x y : Nd) (w : World) : Calls Try.prog 20 #[x.val, y.val] w fun e w' => e = .returned (.int .i64 (wrsC x y)) ∧ Below w.heap.size w w' := by
  have c1 := kc64_any x.jit y.jit
  have c2 := kc64_any x.met y.met
  have c3 := kci_any x.off y.off
  unfold wrsC
  generalize cmpC x.jit y.jit = u at *
  generalize cmpC x.met y.met = v at *
  generalize cmpC x.off y.off = z at *
  have c4 := fun b cap w' h0 h1 h2 => kor_any u v z b cap w' h0 h1 h2
  generalize orC u (orC v z) = r at *
  obtain ⟨h1, h2, hB⟩ := two_nd17 w #[.int .i64 x.off, .int .i64 x.jit, .int .i64 x.met] #[.int .i64 y.off, .int .i64 y.jit, .int .i64 y.met] 53
  have zs : ((w.alloc (.cells #[.int .i64 x.off, .int .i64 x.jit, .int .i64 x.met] 53)).alloc (.cells #[.int .i64 y.off, .int .i64 y.jit, .int .i64 y.met] 53)).heap.size = w.heap.size + 1 + 1 := by rw [World.size_alloc, World.size_alloc]
  unfold Nd.val
  go_enter Try.func20, Try.ntmps20
  go_upto_region 1 with fail
  generalize (w.alloc (.cells #[.int .i64 x.off, .int .i64 x.jit, .int .i64 x.met] 53)).alloc (.cells #[.int .i64 y.off, .int .i64 y.jit, .int .i64 y.met] 53) = w2 at *
  obtain ⟨x0, x1, x2, _⟩ := three_at17 h1
  obtain ⟨y0, y1, y2, _⟩ := three_at17 h2
  have hB' : Below w.heap.size w (w2.alloc (.cells #[.int .i64 u, .int .i64 v, .int .i64 z] 3)).drew := Below.drew (hB.alloc hB.size _)
  have H := Lib.hid hB'
  have b0 : (w2.alloc (.cells #[.int .i64 u, .int .i64 v, .int .i64 z] 3)).drew.cell? ⟨w2.heap.size, 0, none⟩ = some (.int .i64 u) := by simp [go_sem]
  have b1 : (w2.alloc (.cells #[.int .i64 u, .int .i64 v, .int .i64 z] 3)).drew.cell? ⟨w2.heap.size, 1, none⟩ = some (.int .i64 v) := by simp [go_sem]
  have b2 : (w2.alloc (.cells #[.int .i64 u, .int .i64 v, .int .i64 z] 3)).drew.cell? ⟨w2.heap.size, 2, none⟩ = some (.int .i64 z) := by simp [go_sem]
  have kp : ∀ k o, k < w2.heap.size → (w2.alloc (.cells #[.int .i64 u, .int .i64 v, .int .i64 z] 3)).drew.cell? ⟨k, o, none⟩ = w2.cell? ⟨k, o, none⟩ := fun k o hk => cell_same (Below.heap_alloc w2 _ k hk) o
  have l0 := (Array.getElem?_eq_some_iff.1 h1).1
  have l1 := (Array.getElem?_eq_some_iff.1 h2).1
  have x0' := (kp _ 0 l0).trans x0
  have x1' := (kp _ 1 l0).trans x1
  have x2' := (kp _ 2 l0).trans x2
  have y0' := (kp _ 0 l1).trans y0
  have y1' := (kp _ 1 l1).trans y1
  have y2' := (kp _ 2 l1).trans y2
  clear h1 h2 hB hB' zs
  go_region_held3 (fun w' => w'.cell? ⟨w.heap.size, 0, none⟩ = some (.int .i64 x.off) ∧ w'.cell? ⟨w.heap.size, 1, none⟩ = some (.int .i64 x.jit) ∧ w'.cell? ⟨w.heap.size, 2, none⟩ = some (.int .i64 x.met) ∧ w'.cell? ⟨w.heap.size + 1, 0, none⟩ = some (.int .i64 y.off) ∧ w'.cell? ⟨w.heap.size + 1, 1, none⟩ = some (.int .i64 y.jit) ∧ w'.cell? ⟨w.heap.size + 1, 2, none⟩ = some (.int .i64 y.met))
    (first | exact ⟨x0, x1, x2, y0, y1, y2⟩ | exact ⟨x0', x1', x2', y0', y1', y2'⟩)
    (first | (go_at_call 22; (first | (with_reducible refine (c1 _).mono ?_) | (with_reducible refine (c2 _).mono ?_)); rintro e w' ⟨rfl, rfl⟩) | (go_at_call 23; refine (c3 _).mono ?_; rintro e w' ⟨rfl, rfl⟩) | (go_at_call 21; refine (c4 _ _ _ b0 b1 b2).mono ?_; rintro e w' ⟨rfl, rfl⟩))
  go_wp2_with fail
  go_ret
  exact ⟨rfl, H.out⟩
end Go.Proofs.Ytefjdmbioclddaa.W
