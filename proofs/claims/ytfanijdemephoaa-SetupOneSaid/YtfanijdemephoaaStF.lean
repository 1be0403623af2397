/- The document's own answers of layer 10, walked: what is checked. -/
import Derived.Test.YtfanijdemephoaaStE
import Derived.Test.YtfanijdemephoaaFyD
import Derived.Test.YtfanijdemephoaaQtA
namespace Go.Proofs.Ytfanijdemephoaa.W
open Go.RowKit Go.Sort
set_option linter.unusedVariables false
set_option linter.unusedSimpArgs false
/-- What was set. -/
structure Pm where
  step : Int
  watch : Int
  panic : Int
  maxrate : Int
  phi : Int
  maxdist : Int
  gate : Int
  minpoll : Int
  maxpoll : Int
  burst : Int
  minsane : Int
  minleft : Int
def Pm.val (p : Pm) : Value := .agg #[.int .i64 p.step, .int .i64 p.watch, .int .i64 p.panic, .int .i64 p.maxrate, .int .i64 p.phi, .int .i64 p.maxdist, .int .i64 p.gate, .int .i64 p.minpoll, .int .i64 p.maxpoll, .int .i64 p.burst, .int .i64 p.minsane, .int .i64 p.minleft]
def zeroP : Pm := ⟨0, 0, 0, 0, 0, 0, 0, 0, 0, 0, 0, 0⟩
def setP (c : Cf) : Pm := ⟨ofV c.step, ofV c.watch, ofV c.panic, ofV c.maxrate, ofV c.phi, ofV c.maxdist, ofV c.gate, c.minpoll, c.maxpoll, c.burst, c.minsane, c.minleft⟩
def chkN (c : Cf) : Int := (upTo c 12).headD 0
def chkE (c : Cf) : Int := if upTo c 12 = [] then 0 else fieldE c ((upTo c 12).headD 0).toNat
def chkP (c : Cf) : Pm := if upTo c 12 = [] then setP c else zeroP
set_option maxRecDepth 100000 in
set_option maxHeartbeats 1600000 in
theorem roff_any (b : Nat) (hb : b < 18446744073709551616) (w : World) : Calls Try.prog 17 #[.float .f64 b] w fun e w' => e = .returned (.int .i64 (ofV b)) ∧ w = w' := by
  have c := rof_any b hb
  generalize ofV b = v at *
  generalize ofE b = e at *
  clear hb
  go_enter Try.func17, Try.ntmps17
  go_wp2_with fail
  (with_reducible refine (c _).mono ?_)
  rintro e w' ⟨rfl, rfl⟩
  go_wp2_with fail
  go_ret
  exact ⟨rfl, rfl⟩
theorem twelve_frozen {w : World} {p : Nat} {a0 a1 a2 a3 a4 a5 a6 a7 a8 a9 a10 a11 : Value} {t : TypeId} (h : w.heap[p]? = some (.cells #[a0, a1, a2, a3, a4, a5, a6, a7, a8, a9, a10, a11] t (0, 0))) (j : Nat) : w.frozen? ⟨p, j, none⟩ = false := by
  simp [World.frozen?, h]
/-- Twelve cells, written. -/
def put12 (w : World) (b : Nat) (a0 a1 a2 a3 a4 a5 a6 a7 a8 a9 a10 a11 : Value) : World :=
  ((((((((((((w.setCell ⟨b, 0, none⟩ a0).setCell ⟨b, 1, none⟩ a1).setCell ⟨b, 2, none⟩ a2).setCell ⟨b, 3, none⟩ a3).setCell ⟨b, 4, none⟩ a4).setCell ⟨b, 5, none⟩ a5).setCell ⟨b, 6, none⟩ a6).setCell ⟨b, 7, none⟩ a7).setCell ⟨b, 8, none⟩ a8).setCell ⟨b, 9, none⟩ a9).setCell ⟨b, 10, none⟩ a10).setCell ⟨b, 11, none⟩ a11)
set_option maxRecDepth 100000 in
set_option maxHeartbeats 1600000 in
theorem put12_at {w : World} {p : Nat} {b0 b1 b2 b3 b4 b5 b6 b7 b8 b9 b10 b11 : Value} {t : TypeId} (a0 a1 a2 a3 a4 a5 a6 a7 a8 a9 a10 a11 : Value) (h : w.heap[p]? = some (.cells #[b0, b1, b2, b3, b4, b5, b6, b7, b8, b9, b10, b11] t (0, 0))) :
    (put12 w p a0 a1 a2 a3 a4 a5 a6 a7 a8 a9 a10 a11).heap[p]? = some (.cells #[a0, a1, a2, a3, a4, a5, a6, a7, a8, a9, a10, a11] t (0, 0)) := by
  have h0 : (w.setCell ⟨p, 0, none⟩ a0).heap[p]? = some (.cells #[a0, b1, b2, b3, b4, b5, b6, b7, b8, b9, b10, b11] t (0, 0)) := block_set 0 a0 h
  have h1 : ((w.setCell ⟨p, 0, none⟩ a0).setCell ⟨p, 1, none⟩ a1).heap[p]? = some (.cells #[a0, a1, b2, b3, b4, b5, b6, b7, b8, b9, b10, b11] t (0, 0)) := block_set 1 a1 h0
  have h2 : (((w.setCell ⟨p, 0, none⟩ a0).setCell ⟨p, 1, none⟩ a1).setCell ⟨p, 2, none⟩ a2).heap[p]? = some (.cells #[a0, a1, a2, b3, b4, b5, b6, b7, b8, b9, b10, b11] t (0, 0)) := block_set 2 a2 h1
  have h3 : ((((w.setCell ⟨p, 0, none⟩ a0).setCell ⟨p, 1, none⟩ a1).setCell ⟨p, 2, none⟩ a2).setCell ⟨p, 3, none⟩ a3).heap[p]? = some (.cells #[a0, a1, a2, a3, b4, b5, b6, b7, b8, b9, b10, b11] t (0, 0)) := block_set 3 a3 h2
  have h4 : (((((w.setCell ⟨p, 0, none⟩ a0).setCell ⟨p, 1, none⟩ a1).setCell ⟨p, 2, none⟩ a2).setCell ⟨p, 3, none⟩ a3).setCell ⟨p, 4, none⟩ a4).heap[p]? = some (.cells #[a0, a1, a2, a3, a4, b5, b6, b7, b8, b9, b10, b11] t (0, 0)) := block_set 4 a4 h3
  have h5 : ((((((w.setCell ⟨p, 0, none⟩ a0).setCell ⟨p, 1, none⟩ a1).setCell ⟨p, 2, none⟩ a2).setCell ⟨p, 3, none⟩ a3).setCell ⟨p, 4, none⟩ a4).setCell ⟨p, 5, none⟩ a5).heap[p]? = some (.cells #[a0, a1, a2, a3, a4, a5, b6, b7, b8, b9, b10, b11] t (0, 0)) := block_set 5 a5 h4
  have h6 : (((((((w.setCell ⟨p, 0, none⟩ a0).setCell ⟨p, 1, none⟩ a1).setCell ⟨p, 2, none⟩ a2).setCell ⟨p, 3, none⟩ a3).setCell ⟨p, 4, none⟩ a4).setCell ⟨p, 5, none⟩ a5).setCell ⟨p, 6, none⟩ a6).heap[p]? = some (.cells #[a0, a1, a2, a3, a4, a5, a6, b7, b8, b9, b10, b11] t (0, 0)) := block_set 6 a6 h5
  have h7 : ((((((((w.setCell ⟨p, 0, none⟩ a0).setCell ⟨p, 1, none⟩ a1).setCell ⟨p, 2, none⟩ a2).setCell ⟨p, 3, none⟩ a3).setCell ⟨p, 4, none⟩ a4).setCell ⟨p, 5, none⟩ a5).setCell ⟨p, 6, none⟩ a6).setCell ⟨p, 7, none⟩ a7).heap[p]? = some (.cells #[a0, a1, a2, a3, a4, a5, a6, a7, b8, b9, b10, b11] t (0, 0)) := block_set 7 a7 h6
  have h8 : (((((((((w.setCell ⟨p, 0, none⟩ a0).setCell ⟨p, 1, none⟩ a1).setCell ⟨p, 2, none⟩ a2).setCell ⟨p, 3, none⟩ a3).setCell ⟨p, 4, none⟩ a4).setCell ⟨p, 5, none⟩ a5).setCell ⟨p, 6, none⟩ a6).setCell ⟨p, 7, none⟩ a7).setCell ⟨p, 8, none⟩ a8).heap[p]? = some (.cells #[a0, a1, a2, a3, a4, a5, a6, a7, a8, b9, b10, b11] t (0, 0)) := block_set 8 a8 h7
  have h9 : ((((((((((w.setCell ⟨p, 0, none⟩ a0).setCell ⟨p, 1, none⟩ a1).setCell ⟨p, 2, none⟩ a2).setCell ⟨p, 3, none⟩ a3).setCell ⟨p, 4, none⟩ a4).setCell ⟨p, 5, none⟩ a5).setCell ⟨p, 6, none⟩ a6).setCell ⟨p, 7, none⟩ a7).setCell ⟨p, 8, none⟩ a8).setCell ⟨p, 9, none⟩ a9).heap[p]? = some (.cells #[a0, a1, a2, a3, a4, a5, a6, a7, a8, a9, b10, b11] t (0, 0)) := block_set 9 a9 h8
  have h10 : (((((((((((w.setCell ⟨p, 0, none⟩ a0).setCell ⟨p, 1, none⟩ a1).setCell ⟨p, 2, none⟩ a2).setCell ⟨p, 3, none⟩ a3).setCell ⟨p, 4, none⟩ a4).setCell ⟨p, 5, none⟩ a5).setCell ⟨p, 6, none⟩ a6).setCell ⟨p, 7, none⟩ a7).setCell ⟨p, 8, none⟩ a8).setCell ⟨p, 9, none⟩ a9).setCell ⟨p, 10, none⟩ a10).heap[p]? = some (.cells #[a0, a1, a2, a3, a4, a5, a6, a7, a8, a9, a10, b11] t (0, 0)) := block_set 10 a10 h9
  have h11 : ((((((((((((w.setCell ⟨p, 0, none⟩ a0).setCell ⟨p, 1, none⟩ a1).setCell ⟨p, 2, none⟩ a2).setCell ⟨p, 3, none⟩ a3).setCell ⟨p, 4, none⟩ a4).setCell ⟨p, 5, none⟩ a5).setCell ⟨p, 6, none⟩ a6).setCell ⟨p, 7, none⟩ a7).setCell ⟨p, 8, none⟩ a8).setCell ⟨p, 9, none⟩ a9).setCell ⟨p, 10, none⟩ a10).setCell ⟨p, 11, none⟩ a11).heap[p]? = some (.cells #[a0, a1, a2, a3, a4, a5, a6, a7, a8, a9, a10, a11] t (0, 0)) := block_set 11 a11 h10
  exact h11
theorem put12_far {w : World} {p k : Nat} (a0 a1 a2 a3 a4 a5 a6 a7 a8 a9 a10 a11 : Value) (hk : k ≠ p) : (put12 w p a0 a1 a2 a3 a4 a5 a6 a7 a8 a9 a10 a11).heap[k]? = w.heap[k]? := by
  unfold put12
  rw [block_far _ _ hk, block_far _ _ hk, block_far _ _ hk, block_far _ _ hk, block_far _ _ hk, block_far _ _ hk, block_far _ _ hk, block_far _ _ hk, block_far _ _ hk, block_far _ _ hk, block_far _ _ hk, block_far _ _ hk]
theorem put12_size (w : World) (p : Nat) (a0 a1 a2 a3 a4 a5 a6 a7 a8 a9 a10 a11 : Value) : (put12 w p a0 a1 a2 a3 a4 a5 a6 a7 a8 a9 a10 a11).heap.size = w.heap.size := by
  unfold put12
  rw [set_size, set_size, set_size, set_size, set_size, set_size, set_size, set_size, set_size, set_size, set_size, set_size]
theorem quiet_world10 {w w' : World} (h : ∃ p : Regrown, w' = grow (redrawn w p.d) p.os) : Below w.heap.size w w' := by
  obtain ⟨p, rfl⟩ := h
  exact below_regrown w p.d p.os
theorem put12_below {w0 w : World} {p : Nat} (a0 a1 a2 a3 a4 a5 a6 a7 a8 a9 a10 a11 : Value) (h : Below w0.heap.size w0 w) (hp : w0.heap.size ≤ p) : Below w0.heap.size w0 (put12 w p a0 a1 a2 a3 a4 a5 a6 a7 a8 a9 a10 a11) := by
  unfold put12
  exact (((((((((((h.setCell hp a0).setCell hp a1).setCell hp a2).setCell hp a3).setCell hp a4).setCell hp a5).setCell hp a6).setCell hp a7).setCell hp a8).setCell hp a9).setCell hp a10).setCell hp a11
/-- What a cell holds already is stored into it: nothing turns. -/
theorem set_same {w : World} {p j : Nat} {C : Array Value} {t : TypeId} {f : Nat × Nat} {v : Value} (h : w.heap[p]? = some (.cells C t f)) (hv : C[j]? = some v) : w.setCell ⟨p, j, none⟩ v = w := by
  have hb := block_set j v h
  obtain ⟨hj, e⟩ := Array.getElem?_eq_some_iff.1 hv
  have hC : C.setIfInBounds j v = C := by
    apply Array.ext_getElem?
    intro k
    by_cases hk : k = j
    · subst hk
      simp [hj, e]
    · rw [Array.getElem?_setIfInBounds_ne (fun e => hk e.symm)]
  rw [hC] at hb
  have hh : (w.setCell ⟨p, j, none⟩ v).heap = w.heap := by
    apply Array.ext_getElem?
    intro k
    by_cases hk : k = p
    · subst hk
      rw [hb, h]
    · exact block_far j v hk
  exact congrArg (fun x => ({ w with heap := x } : World)) hh
set_option maxRecDepth 100000 in
set_option maxHeartbeats 12800000 in
theorem rcheck_any (c : Cf) (t : c.Typed) (w : World) : Calls Try.prog 7 #[c.val] w fun e w' => e = .returned (.tuple #[(chkP c).val, .int .i64 (chkN c), .int .i64 (chkE c)]) ∧ Below w.heap.size w w' := by
  have hA : Below w.heap.size w ((w.alloc (.cells #[.float .f64 c.step, .float .f64 c.watch, .float .f64 c.panic, .float .f64 c.maxrate, .float .f64 c.phi, .float .f64 c.maxdist, .float .f64 c.gate, .int .i64 c.minpoll, .int .i64 c.maxpoll, .int .i64 c.burst, .int .i64 c.minsane, .int .i64 c.minleft] 33)).alloc (.cells #[.int .i64 0, .int .i64 0, .int .i64 0, .int .i64 0, .int .i64 0, .int .i64 0, .int .i64 0, .int .i64 0, .int .i64 0, .int .i64 0, .int .i64 0, .int .i64 0] 30)) := ((Below.refl _ _).alloc (Nat.le_refl _) _).alloc (by simp) _
  have hx := (Below.heap_alloc (w.alloc (.cells #[.float .f64 c.step, .float .f64 c.watch, .float .f64 c.panic, .float .f64 c.maxrate, .float .f64 c.phi, .float .f64 c.maxdist, .float .f64 c.gate, .int .i64 c.minpoll, .int .i64 c.maxpoll, .int .i64 c.burst, .int .i64 c.minsane, .int .i64 c.minleft] 33)) (.cells #[.int .i64 0, .int .i64 0, .int .i64 0, .int .i64 0, .int .i64 0, .int .i64 0, .int .i64 0, .int .i64 0, .int .i64 0, .int .i64 0, .int .i64 0, .int .i64 0] 30) w.heap.size (by simp)).trans (heap_alloc_new w _)
  have hr := heap_alloc_new (w.alloc (.cells #[.float .f64 c.step, .float .f64 c.watch, .float .f64 c.panic, .float .f64 c.maxrate, .float .f64 c.phi, .float .f64 c.maxdist, .float .f64 c.gate, .int .i64 c.minpoll, .int .i64 c.maxpoll, .int .i64 c.burst, .int .i64 c.minsane, .int .i64 c.minleft] 33)) (.cells #[.int .i64 0, .int .i64 0, .int .i64 0, .int .i64 0, .int .i64 0, .int .i64 0, .int .i64 0, .int .i64 0, .int .i64 0, .int .i64 0, .int .i64 0, .int .i64 0] 30)
  rw [World.size_alloc] at hr
  have y := rfaults_any c t
  have T := Lib.hid t
  clear t
  have hsplit : (upTo c 12 = []) ∨ (∃ n l, upTo c 12 = n :: l ∧ 1 ≤ n ∧ n ≤ 12) := by
    cases h : upTo c 12 with
    | nil => exact .inl rfl
    | cons n l =>
      refine .inr ⟨n, l, rfl, ?_⟩
      have hm : n ∈ upTo c 12 := by rw [h]; exact List.mem_cons_self ..
      unfold upTo at hm
      obtain ⟨k, hk, rfl⟩ := List.mem_map.1 hm
      have := List.mem_range'.1 (List.mem_filter.1 hk).1
      omega
  unfold chkP chkN chkE Cf.val at *
  rcases hsplit with h0 | ⟨n, l, hc, hn1, hn2⟩
  · rw [h0, if_pos rfl, if_pos rfl]
    rw [h0] at y
    unfold setP Pm.val
    have c1 := roff_any c.step T.out.step
    have c2 := roff_any c.watch T.out.watch
    have c3 := roff_any c.panic T.out.panic
    have c4 := roff_any c.maxrate T.out.maxrate
    have c5 := roff_any c.phi T.out.phi
    have c6 := roff_any c.maxdist T.out.maxdist
    have c7 := roff_any c.gate T.out.gate
    generalize ofV c.step = v1 at *
    generalize ofV c.watch = v2 at *
    generalize ofV c.panic = v3 at *
    generalize ofV c.maxrate = v4 at *
    generalize ofV c.phi = v5 at *
    generalize ofV c.maxdist = v6 at *
    generalize ofV c.gate = v7 at *
    clear T h0
    go_enter Try.func7, Try.ntmps7
    go_wp2_with fail
    generalize (w.alloc (.cells #[.float .f64 c.step, .float .f64 c.watch, .float .f64 c.panic, .float .f64 c.maxrate, .float .f64 c.phi, .float .f64 c.maxdist, .float .f64 c.gate, .int .i64 c.minpoll, .int .i64 c.maxpoll, .int .i64 c.burst, .int .i64 c.minsane, .int .i64 c.minleft] 33)).alloc (.cells #[.int .i64 0, .int .i64 0, .int .i64 0, .int .i64 0, .int .i64 0, .int .i64 0, .int .i64 0, .int .i64 0, .int .i64 0, .int .i64 0, .int .i64 0, .int .i64 0] 30) = w1 at *
    (with_reducible refine (y _).mono ?_)
    rintro e w2 ⟨vl, rfl, hl, hB2⟩
    have lx := (Array.getElem?_eq_some_iff.1 hx).1
    have lr := (Array.getElem?_eq_some_iff.1 hr).1
    have hx2 := (hB2.block _ lx).trans hx
    have hr2 := (hB2.block _ lr).trans hr
    have hB := hA.trans (hB2.mono hA.size)
    obtain ⟨a0, a1, a2, a3, a4, a5, a6, a7, a8, a9, a10, a11⟩ := twelve_at hx2
    obtain ⟨r0, r1, r2, r3, r4, r5, r6, r7, r8, r9, r10, r11⟩ := twelve_at hr2
    have fr := twelve_frozen hr2
    obtain ⟨vx, vc, rfl⟩ := hl.slice
    have B := Lib.hid (And.intro hB (And.intro hx2 hr2))
    clear hB hx2 hr2 hx hr hA hB2 hl y
    go_wp2_with fail
    have k0 := cell_regrown a0
    have k1 := cell_regrown a1
    have k2 := cell_regrown a2
    have k3 := cell_regrown a3
    have k4 := cell_regrown a4
    have k5 := cell_regrown a5
    have k6 := cell_regrown a6
    have k7 := cell_regrown a7
    have k8 := cell_regrown a8
    have k9 := cell_regrown a9
    have k10 := cell_regrown a10
    have k11 := cell_regrown a11
    have e1 := fun d os => Calls.regrown_of ((c1 (grow (redrawn w2 d) os)).mono (fun e w' h => ⟨h.1, h.2 ▸ Below.refl _ _⟩))
    have e2 := fun d os => Calls.regrown_of ((c2 (grow (redrawn w2 d) os)).mono (fun e w' h => ⟨h.1, h.2 ▸ Below.refl _ _⟩))
    have e3 := fun d os => Calls.regrown_of ((c3 (grow (redrawn w2 d) os)).mono (fun e w' h => ⟨h.1, h.2 ▸ Below.refl _ _⟩))
    have e4 := fun d os => Calls.regrown_of ((c4 (grow (redrawn w2 d) os)).mono (fun e w' h => ⟨h.1, h.2 ▸ Below.refl _ _⟩))
    have e5 := fun d os => Calls.regrown_of ((c5 (grow (redrawn w2 d) os)).mono (fun e w' h => ⟨h.1, h.2 ▸ Below.refl _ _⟩))
    have e6 := fun d os => Calls.regrown_of ((c6 (grow (redrawn w2 d) os)).mono (fun e w' h => ⟨h.1, h.2 ▸ Below.refl _ _⟩))
    have e7 := fun d os => Calls.regrown_of ((c7 (grow (redrawn w2 d) os)).mono (fun e w' h => ⟨h.1, h.2 ▸ Below.refl _ _⟩))
    refine wp_region_below_tail 32 (by kernel_rfl) (by kernel_rfl) ?_
    simp only [List.take_succ_cons, List.take_zero, List.drop_succ_cons, List.drop_zero]
    repeat (quiet_step (first | (with_reducible exact e1 _ _) | (with_reducible exact e2 _ _) | (with_reducible exact e3 _ _) | (with_reducible exact e4 _ _) | (with_reducible exact e5 _ _) | (with_reducible exact e6 _ _) | (with_reducible exact e7 _ _)))
    refine wpQuiet_nil ?_
    intro w3 hw
    replace hw := quiet_world10 hw
    clear e1 e2 e3 e4 e5 e6 e7 k0 k1 k2 k3 k4 k5 k6 k7 k8 k9 k10 k11
    have hr3 := (hw.block _ (Array.getElem?_eq_some_iff.1 B.out.2.2).1).trans B.out.2.2
    have hBf := put12_below (.int .i64 v1) (.int .i64 v2) (.int .i64 v3) (.int .i64 v4) (.int .i64 v5) (.int .i64 v6) (.int .i64 v7) (.int .i64 c.minpoll) (.int .i64 c.maxpoll) (.int .i64 c.burst) (.int .i64 c.minsane) (.int .i64 c.minleft) (B.out.1.trans (hw.mono B.out.1.size)) (show w.heap.size ≤ w.heap.size + 1 by omega)
    have hrf := put12_at (.int .i64 v1) (.int .i64 v2) (.int .i64 v3) (.int .i64 v4) (.int .i64 v5) (.int .i64 v6) (.int .i64 v7) (.int .i64 c.minpoll) (.int .i64 c.maxpoll) (.int .i64 c.burst) (.int .i64 c.minsane) (.int .i64 c.minleft) hr3
    clear r0 r1 r2 r3 r4 r5 r6 r7 r8 r9 r10 r11 fr a0 a1 a2 a3 a4 a5 a6 a7 a8 a9 a10 a11
    obtain ⟨r0, r1, r2, r3, r4, r5, r6, r7, r8, r9, r10, r11⟩ := twelve_at hr3
    have fr := twelve_frozen hr3
    have E := Lib.hid (And.intro hrf hBf)
    clear hr3 hrf hBf hw B
    unfold put12 at E
    go_wp2_with fail
    obtain ⟨q0, q1, q2, q3, q4, q5, q6, q7, q8, q9, q10, q11⟩ := twelve_at E.out.1
    refine bodyPost_ret (v := .tuple #[.agg #[.int .i64 v1, .int .i64 v2, .int .i64 v3, .int .i64 v4, .int .i64 v5, .int .i64 v6, .int .i64 v7, .int .i64 c.minpoll, .int .i64 c.maxpoll, .int .i64 c.burst, .int .i64 c.minsane, .int .i64 c.minleft], .int .i64 0, .int .i64 0]) ?_ rfl ?_
    · simp [results, Try.results7, go_sem, q0, q1, q2, q3, q4, q5, q6, q7, q8, q9, q10, q11]
    · exact ⟨rfl, E.out.2⟩
  · rw [hc, if_neg (by simp), if_neg (by simp)]
    rw [hc] at y
    have yf := fun w' => rfield_any c T.out n.toNat (by omega) (by omega) w'
    rw [show ((n.toNat : Nat) : Int) = n by omega] at yf
    unfold zeroP Pm.val
    simp only [List.headD_cons]
    generalize fieldE c n.toNat = ev at *
    unfold Cf.val at *
    clear T hc
    go_enter Try.func7, Try.ntmps7
    go_wp2_with fail
    generalize (w.alloc (.cells #[.float .f64 c.step, .float .f64 c.watch, .float .f64 c.panic, .float .f64 c.maxrate, .float .f64 c.phi, .float .f64 c.maxdist, .float .f64 c.gate, .int .i64 c.minpoll, .int .i64 c.maxpoll, .int .i64 c.burst, .int .i64 c.minsane, .int .i64 c.minleft] 33)).alloc (.cells #[.int .i64 0, .int .i64 0, .int .i64 0, .int .i64 0, .int .i64 0, .int .i64 0, .int .i64 0, .int .i64 0, .int .i64 0, .int .i64 0, .int .i64 0, .int .i64 0] 30) = w1 at *
    (with_reducible refine (y _).mono ?_)
    rintro e w2 ⟨vl, rfl, hl, hB2⟩
    have lx := (Array.getElem?_eq_some_iff.1 hx).1
    have lr := (Array.getElem?_eq_some_iff.1 hr).1
    have hx2 := (hB2.block _ lx).trans hx
    have hr2 := (hB2.block _ lr).trans hr
    have hB := hA.trans (hB2.mono hA.size)
    obtain ⟨a0, a1, a2, a3, a4, a5, a6, a7, a8, a9, a10, a11⟩ := twelve_at hx2
    rcases hl with ⟨_, _, _, _, hnil⟩ | ⟨b, off, cap, rfl, hb, hcs⟩
    · cases hnil
    · have l0 := hcs 0 n rfl 0 _ rfl
      simp only [Nat.zero_mul, Nat.add_zero] at l0
      have hlen : ((n :: l).length : Int) > 0 := by simp
      have hlen1 : (0 : Int) < ((n :: l).length : Int) := hlen
      generalize (n :: l).length = m at *
      have hs0 : ∀ (k : Nat), k < 12 → ∀ d os, (grow (redrawn w2 d) os).setCell ⟨w.heap.size + 1, k, none⟩ (.int .i64 0) = grow (redrawn w2 d) os := fun k hk d os => by
        refine set_same (((below_regrown w2 d os).block _ (Array.getElem?_eq_some_iff.1 hr2).1).trans hr2) ?_
        have : k = 0 ∨ k = 1 ∨ k = 2 ∨ k = 3 ∨ k = 4 ∨ k = 5 ∨ k = 6 ∨ k = 7 ∨ k = 8 ∨ k = 9 ∨ k = 10 ∨ k = 11 := by omega
        rcases this with rfl | rfl | rfl | rfl | rfl | rfl | rfl | rfl | rfl | rfl | rfl | rfl <;> rfl
      have s0 := hs0 0 (by decide)
      have s1 := hs0 1 (by decide)
      have s2 := hs0 2 (by decide)
      have s3 := hs0 3 (by decide)
      have s4 := hs0 4 (by decide)
      have s5 := hs0 5 (by decide)
      have s6 := hs0 6 (by decide)
      have s7 := hs0 7 (by decide)
      have s8 := hs0 8 (by decide)
      have s9 := hs0 9 (by decide)
      have s10 := hs0 10 (by decide)
      have s11 := hs0 11 (by decide)
      obtain ⟨r0, r1, r2, r3, r4, r5, r6, r7, r8, r9, r10, r11⟩ := twelve_at hr2
      have q0 := cell_regrown r0
      have q1 := cell_regrown r1
      have q2 := cell_regrown r2
      have q3 := cell_regrown r3
      have q4 := cell_regrown r4
      have q5 := cell_regrown r5
      have q6 := cell_regrown r6
      have q7 := cell_regrown r7
      have q8 := cell_regrown r8
      have q9 := cell_regrown r9
      have q10 := cell_regrown r10
      have q11 := cell_regrown r11
      have fz : ∀ j d os, (grow (redrawn w2 d) os).frozen? ⟨w.heap.size + 1, j, none⟩ = false := fun j d os => twelve_frozen (((below_regrown w2 d os).block _ (Array.getElem?_eq_some_iff.1 hr2).1).trans hr2) j
      have B := Lib.hid (And.intro hB hr2)
      clear hB hx2 hr2 hx hr hA hB2 hcs y hs0
      go_wp2_with fail
      have k0 := cell_regrown a0
      have k1 := cell_regrown a1
      have k2 := cell_regrown a2
      have k3 := cell_regrown a3
      have k4 := cell_regrown a4
      have k5 := cell_regrown a5
      have k6 := cell_regrown a6
      have k7 := cell_regrown a7
      have k8 := cell_regrown a8
      have k9 := cell_regrown a9
      have k10 := cell_regrown a10
      have k11 := cell_regrown a11
      have k12 := cell_regrown l0
      have e1 := fun d os => Calls.regrown_of (yf (grow (redrawn w2 d) os))
      clear r0 r1 r2 r3 r4 r5 r6 r7 r8 r9 r10 r11 a0 a1 a2 a3 a4 a5 a6 a7 a8 a9 a10 a11 l0
      refine wp_region_quiet_below (by kernel_rfl) (by kernel_rfl) ?_
      repeat (quiet_step (first | (with_reducible exact e1 _ _)))
      refine wpQuiet_nil ?_
      intro w3 hw
      replace hw := quiet_world10 hw
      clear e1 k0 k1 k2 k3 k4 k5 k6 k7 k8 k9 k10 k11 k12 q0 q1 q2 q3 q4 q5 q6 q7 q8 q9 q10 q11 s0 s1 s2 s3 s4 s5 s6 s7 s8 s9 s10 s11 fz
      have hr3 := (hw.block _ (Array.getElem?_eq_some_iff.1 B.out.2).1).trans B.out.2
      obtain ⟨q0, q1, q2, q3, q4, q5, q6, q7, q8, q9, q10, q11⟩ := twelve_at hr3
      have E := Lib.hid (B.out.1.trans (hw.mono B.out.1.size))
      clear hr3 hw B
      go_wp2_with fail
      refine bodyPost_ret (v := .tuple #[.agg #[.int .i64 0, .int .i64 0, .int .i64 0, .int .i64 0, .int .i64 0, .int .i64 0, .int .i64 0, .int .i64 0, .int .i64 0, .int .i64 0, .int .i64 0, .int .i64 0], .int .i64 n, .int .i64 ev]) ?_ rfl ?_
      · simp [results, Try.results7, go_sem, q0, q1, q2, q3, q4, q5, q6, q7, q8, q9, q10, q11]
      · exact ⟨rfl, E.out⟩
end Go.Proofs.Ytfanijdemephoaa.W
