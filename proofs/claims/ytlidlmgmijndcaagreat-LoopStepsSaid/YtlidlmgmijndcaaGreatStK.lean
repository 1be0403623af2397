/- Layer 10's own code, walked: a field, bounded. -/
import Derived.Test.YtlidlmgmijndcaaGreatStI
import Derived.Lib.Hide
namespace Go.Proofs.YtlidlmgmijndcaaGreat.W
open Go.RowKit Go.Sort
set_option linter.unusedVariables false
set_option linter.unusedSimpArgs false
theorem quiet_worldK {w w' : World} (h : ∃ p : Regrown, w' = grow (redrawn w p.d) p.os) : Below w.heap.size w w' := by
  obtain ⟨p, rfl⟩ := h
  exact below_regrown w p.d p.os
theorem seven_at {w : World} {p : Nat} {a0 a1 a2 a3 a4 a5 a6 : Value} {t : TypeId} (h : w.heap[p]? = some (.cells #[a0, a1, a2, a3, a4, a5, a6] t (0, 0))) :
    w.cell? ⟨p, 0, none⟩ = some a0 ∧ w.cell? ⟨p, 1, none⟩ = some a1 ∧ w.cell? ⟨p, 2, none⟩ = some a2 ∧ w.cell? ⟨p, 3, none⟩ = some a3 ∧ w.cell? ⟨p, 4, none⟩ = some a4 ∧ w.cell? ⟨p, 5, none⟩ = some a5 ∧ w.cell? ⟨p, 6, none⟩ = some a6 := by
  refine ⟨?_, ?_, ?_, ?_, ?_, ?_, ?_⟩ <;> simp [World.cell?, h]
theorem twelve_atK {w : World} {p : Nat} {a0 a1 a2 a3 a4 a5 a6 a7 a8 a9 a10 a11 : Value} {t : TypeId} (h : w.heap[p]? = some (.cells #[a0, a1, a2, a3, a4, a5, a6, a7, a8, a9, a10, a11] t (0, 0))) :
    w.cell? ⟨p, 0, none⟩ = some a0 ∧ w.cell? ⟨p, 1, none⟩ = some a1 ∧ w.cell? ⟨p, 2, none⟩ = some a2 ∧ w.cell? ⟨p, 3, none⟩ = some a3 ∧ w.cell? ⟨p, 4, none⟩ = some a4 ∧ w.cell? ⟨p, 5, none⟩ = some a5 ∧ w.cell? ⟨p, 6, none⟩ = some a6 ∧ w.cell? ⟨p, 7, none⟩ = some a7 ∧ w.cell? ⟨p, 8, none⟩ = some a8 ∧ w.cell? ⟨p, 9, none⟩ = some a9 ∧ w.cell? ⟨p, 10, none⟩ = some a10 ∧ w.cell? ⟨p, 11, none⟩ = some a11 := by
  refine ⟨?_, ?_, ?_, ?_, ?_, ?_, ?_, ?_, ?_, ?_, ?_, ?_⟩ <;> simp [World.cell?, h]
def cfCells (c : Cf) : Array Value := #[.float .f64 c.step, .float .f64 c.watch, .float .f64 c.panic, .float .f64 c.maxrate, .float .f64 c.phi, .float .f64 c.maxdist, .float .f64 c.gate, .int .i64 c.minpoll, .int .i64 c.maxpoll, .int .i64 c.burst, .int .i64 c.minsane, .int .i64 c.minleft]
set_option maxRecDepth 100000 in
set_option maxHeartbeats 6400000 in
theorem gboundF (nm : ByteArray) (lo hi : Nat) (f g h : Nat) (cs : Array Value) (c : Cf) (x : Nat) (hlo : lo < 18446744073709551616) (hhi : hi < 18446744073709551616) (hx : x < 18446744073709551616)
    (ef : ∀ (args : Array Value) (w : World), (callFunc f args).run Tryz.prog w = .ok (.enter f args) w) (hof : ∀ w : World, Calls Tryz.prog f #[c.val] w fun e w' => e = .returned (.float .f64 x) ∧ Below w.heap.size w w') (w : World) :
    Calls Tryz.prog 91 #[fldF nm lo hi f g h cs, c.val] w fun e w' => e = .returned (.tuple #[.int .i64 (wiV x lo hi), .int .i64 (wiE x lo hi)]) ∧ Below w.heap.size w w' := by
  have hA : Below w.heap.size w ((w.alloc (.cells #[.string nm, .float .f64 lo, .float .f64 hi, .func (.func f) #[] #[], .func (.func g) #[] #[], .func (.func 88) #[] #[], .func (.func h) #[] cs] 89)).alloc (.cells (cfCells c) 52)) := ((Below.refl _ _).alloc (Nat.le_refl _) _).alloc (by simp) _
  have h0 := (Below.heap_alloc (w.alloc (.cells #[.string nm, .float .f64 lo, .float .f64 hi, .func (.func f) #[] #[], .func (.func g) #[] #[], .func (.func 88) #[] #[], .func (.func h) #[] cs] 89)) (.cells (cfCells c) 52) w.heap.size (by simp)).trans (heap_alloc_new w _)
  have h1 := heap_alloc_new (w.alloc (.cells #[.string nm, .float .f64 lo, .float .f64 hi, .func (.func f) #[] #[], .func (.func g) #[] #[], .func (.func 88) #[] #[], .func (.func h) #[] cs] 89)) (.cells (cfCells c) 52)
  rw [World.size_alloc] at h1
  have c2 := within_any x lo hi hx hlo hhi
  generalize wiV x lo hi = v at *
  generalize wiE x lo hi = ev at *
  clear hlo hhi hx
  unfold fldF
  unfold cfCells at *
  unfold Cf.val at *
  go_enter Tryz.func91, Tryz.ntmps91
  go_wp2_with fail
  generalize (w.alloc (.cells #[.string nm, .float .f64 lo, .float .f64 hi, .func (.func f) #[] #[], .func (.func g) #[] #[], .func (.func 88) #[] #[], .func (.func h) #[] cs] 89)).alloc (.cells #[.float .f64 c.step, .float .f64 c.watch, .float .f64 c.panic, .float .f64 c.maxrate, .float .f64 c.phi, .float .f64 c.maxdist, .float .f64 c.gate, .int .i64 c.minpoll, .int .i64 c.maxpoll, .int .i64 c.burst, .int .i64 c.minsane, .int .i64 c.minleft] 52) = w2 at *
  obtain ⟨a0, a1, a2, a3, a4, a5, a6⟩ := seven_at h0
  obtain ⟨b0, b1, b2, b3, b4, b5, b6, b7, b8, b9, b10, b11⟩ := twelve_atK h1
  have B := Lib.hid hA
  clear h0 h1 hA a0 a4 a6
  have k1 := cell_regrown a1
  have k2 := cell_regrown a2
  have k3 := cell_regrown a3
  have k5 := cell_regrown a5
  have j0 := cell_regrown b0
  have j1 := cell_regrown b1
  have j2 := cell_regrown b2
  have j3 := cell_regrown b3
  have j4 := cell_regrown b4
  have j5 := cell_regrown b5
  have j6 := cell_regrown b6
  have j7 := cell_regrown b7
  have j8 := cell_regrown b8
  have j9 := cell_regrown b9
  have j10 := cell_regrown b10
  have j11 := cell_regrown b11
  have e1 := fun d os => Calls.regrown_of (hof (grow (redrawn w2 d) os))
  have e2 := fun d os => Calls.regrown_of ((c2 (grow (redrawn w2 d) os)).mono (fun e w' h => ⟨h.1, h.2 ▸ Below.refl _ _⟩))
  refine wp_region_below_tail 13 (by kernel_rfl) (by kernel_rfl) ?_
  simp only [List.take_succ_cons, List.take_zero, List.drop_succ_cons, List.drop_zero]
  repeat (quiet_step (first | (with_reducible exact e1 _ _) | (with_reducible exact e2 _ _)))
  refine wpQuiet_nil ?_
  intro w3 hw
  replace hw := quiet_worldK hw
  have hBf := B.out.trans (hw.mono B.out.size)
  clear e1 e2 k1 k2 k3 k5 j0 j1 j2 j3 j4 j5 j6 j7 j8 j9 j10 j11
  go_wp2_with fail
  go_ret2
  exact ⟨rfl, hBf⟩
set_option maxRecDepth 100000 in
set_option maxHeartbeats 6400000 in
theorem gboundW (nm : ByteArray) (lo hi : Int) (f g h : Nat) (cs : Array Value) (c : Cf) (x : Int)
    (ef : ∀ (args : Array Value) (w : World), (callFunc f args).run Tryz.prog w = .ok (.enter f args) w) (hof : ∀ w : World, Calls Tryz.prog f #[c.val] w fun e w' => e = .returned (.int .i64 x) ∧ Below w.heap.size w w') (w : World) :
    Calls Tryz.prog 92 #[fldW nm lo hi f g h cs, c.val] w fun e w' => e = .returned (.tuple #[.int .i64 (whV x lo hi), .int .i64 (whE x lo hi)]) ∧ Below w.heap.size w w' := by
  have hA : Below w.heap.size w ((w.alloc (.cells #[.string nm, .int .i64 lo, .int .i64 hi, .func (.func f) #[] #[], .func (.func g) #[] #[], .func (.func 90) #[] #[], .func (.func h) #[] cs] 95)).alloc (.cells (cfCells c) 52)) := ((Below.refl _ _).alloc (Nat.le_refl _) _).alloc (by simp) _
  have h0 := (Below.heap_alloc (w.alloc (.cells #[.string nm, .int .i64 lo, .int .i64 hi, .func (.func f) #[] #[], .func (.func g) #[] #[], .func (.func 90) #[] #[], .func (.func h) #[] cs] 95)) (.cells (cfCells c) 52) w.heap.size (by simp)).trans (heap_alloc_new w _)
  have h1 := heap_alloc_new (w.alloc (.cells #[.string nm, .int .i64 lo, .int .i64 hi, .func (.func f) #[] #[], .func (.func g) #[] #[], .func (.func 90) #[] #[], .func (.func h) #[] cs] 95)) (.cells (cfCells c) 52)
  rw [World.size_alloc] at h1
  have c2 := gwhole_any x lo hi
  generalize whV x lo hi = v at *
  generalize whE x lo hi = ev at *
  unfold fldW
  unfold cfCells at *
  unfold Cf.val at *
  go_enter Tryz.func92, Tryz.ntmps92
  go_wp2_with fail
  generalize (w.alloc (.cells #[.string nm, .int .i64 lo, .int .i64 hi, .func (.func f) #[] #[], .func (.func g) #[] #[], .func (.func 90) #[] #[], .func (.func h) #[] cs] 95)).alloc (.cells #[.float .f64 c.step, .float .f64 c.watch, .float .f64 c.panic, .float .f64 c.maxrate, .float .f64 c.phi, .float .f64 c.maxdist, .float .f64 c.gate, .int .i64 c.minpoll, .int .i64 c.maxpoll, .int .i64 c.burst, .int .i64 c.minsane, .int .i64 c.minleft] 52) = w2 at *
  obtain ⟨a0, a1, a2, a3, a4, a5, a6⟩ := seven_at h0
  obtain ⟨b0, b1, b2, b3, b4, b5, b6, b7, b8, b9, b10, b11⟩ := twelve_atK h1
  have B := Lib.hid hA
  clear h0 h1 hA a0 a4 a6
  have k1 := cell_regrown a1
  have k2 := cell_regrown a2
  have k3 := cell_regrown a3
  have k5 := cell_regrown a5
  have j0 := cell_regrown b0
  have j1 := cell_regrown b1
  have j2 := cell_regrown b2
  have j3 := cell_regrown b3
  have j4 := cell_regrown b4
  have j5 := cell_regrown b5
  have j6 := cell_regrown b6
  have j7 := cell_regrown b7
  have j8 := cell_regrown b8
  have j9 := cell_regrown b9
  have j10 := cell_regrown b10
  have j11 := cell_regrown b11
  have e1 := fun d os => Calls.regrown_of (hof (grow (redrawn w2 d) os))
  have e2 := fun d os => Calls.regrown_of ((c2 (grow (redrawn w2 d) os)).mono (fun e w' h => ⟨h.1, h.2 ▸ Below.refl _ _⟩))
  refine wp_region_below_tail 13 (by kernel_rfl) (by kernel_rfl) ?_
  simp only [List.take_succ_cons, List.take_zero, List.drop_succ_cons, List.drop_zero]
  repeat (quiet_step (first | (with_reducible exact e1 _ _) | (with_reducible exact e2 _ _)))
  refine wpQuiet_nil ?_
  intro w3 hw
  replace hw := quiet_worldK hw
  have hBf := B.out.trans (hw.mono B.out.size)
  clear e1 e2 k1 k2 k3 k5 j0 j1 j2 j3 j4 j5 j6 j7 j8 j9 j10 j11
  go_wp2_with fail
  go_ret2
  exact ⟨rfl, hBf⟩
end Go.Proofs.YtlidlmgmijndcaaGreat.W
