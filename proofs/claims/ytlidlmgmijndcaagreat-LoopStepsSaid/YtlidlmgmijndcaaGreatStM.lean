/- Layer 10's own code, walked: each field's fault, told one by one. -/
import Derived.Test.YtlidlmgmijndcaaGreatStJ
namespace Go.Proofs.YtlidlmgmijndcaaGreat.W
open Go.RowKit Go.Sort
set_option linter.unusedVariables false
set_option linter.unusedSimpArgs false
set_option maxRecDepth 100000 in
set_option maxHeartbeats 6400000 in
theorem gwithinF (nm : ByteArray) (lo hi : Nat) (f g h : Nat) (cs : Array Value) (c : Cf) (x : Nat) (hlo : lo < 18446744073709551616) (hhi : hi < 18446744073709551616) (hx : x < 18446744073709551616)
    (ef : ∀ (args : Array Value) (w : World), (callFunc f args).run Tryz.prog w = .ok (.enter f args) w) (hof : ∀ w : World, Calls Tryz.prog f #[c.val] w fun e w' => e = .returned (.float .f64 x) ∧ Below w.heap.size w w') (w : World) :
    Calls Tryz.prog 72 #[fldF nm lo hi f g h cs, c.val] w fun e w' => e = .returned (.bool (wiE x lo hi == 0)) ∧ Below w.heap.size w w' := by
  have hA : Below w.heap.size w ((w.alloc (.cells #[.string nm, .float .f64 lo, .float .f64 hi, .func (.func f) #[] #[], .func (.func g) #[] #[], .func (.func 88) #[] #[], .func (.func h) #[] cs] 89)).alloc (.cells (cfCells c) 52)) := ((Below.refl _ _).alloc (Nat.le_refl _) _).alloc (by simp) _
  have c2 := gboundF nm lo hi f g h cs c x hlo hhi hx ef hof
  generalize wiV x lo hi = v at *
  generalize wiE x lo hi = ev at *
  clear hlo hhi hx hof ef
  unfold fldF at *
  unfold cfCells at *
  unfold Cf.val at *
  go_enter Tryz.func72, Tryz.ntmps72
  go_wp2_with fail
  (with_reducible refine (c2 _).mono ?_)
  rintro e w3 ⟨rfl, hB3⟩
  have hBf := hA.trans (hB3.mono hA.size)
  go_wp2_with fail
  go_ret
  exact ⟨rfl, hBf⟩
set_option maxRecDepth 100000 in
set_option maxHeartbeats 6400000 in
theorem gwithinW (nm : ByteArray) (lo hi : Int) (f g h : Nat) (cs : Array Value) (c : Cf) (x : Int)
    (ef : ∀ (args : Array Value) (w : World), (callFunc f args).run Tryz.prog w = .ok (.enter f args) w) (hof : ∀ w : World, Calls Tryz.prog f #[c.val] w fun e w' => e = .returned (.int .i64 x) ∧ Below w.heap.size w w') (w : World) :
    Calls Tryz.prog 74 #[fldW nm lo hi f g h cs, c.val] w fun e w' => e = .returned (.bool (whE x lo hi == 0)) ∧ Below w.heap.size w w' := by
  have hA : Below w.heap.size w ((w.alloc (.cells #[.string nm, .int .i64 lo, .int .i64 hi, .func (.func f) #[] #[], .func (.func g) #[] #[], .func (.func 90) #[] #[], .func (.func h) #[] cs] 95)).alloc (.cells (cfCells c) 52)) := ((Below.refl _ _).alloc (Nat.le_refl _) _).alloc (by simp) _
  have c2 := gboundW nm lo hi f g h cs c x ef hof
  generalize whV x lo hi = v at *
  generalize whE x lo hi = ev at *
  clear hof ef
  unfold fldW at *
  unfold cfCells at *
  unfold Cf.val at *
  go_enter Tryz.func74, Tryz.ntmps74
  go_wp2_with fail
  (with_reducible refine (c2 _).mono ?_)
  rintro e w3 ⟨rfl, hB3⟩
  have hBf := hA.trans (hB3.mono hA.size)
  go_wp2_with fail
  go_ret
  exact ⟨rfl, hBf⟩
def hangsF (c : Cf) : Bool := !(wiE c.step 4562254508917369340 4621819117588971520 == 0) || (FloatKind.f64.format.order c.panic c.step == some .gt)
def hangsW (c : Cf) : Bool := !(whE c.minpoll 4 17 == 0) || decide (c.minpoll ≤ c.maxpoll)
set_option maxRecDepth 100000 in
set_option maxHeartbeats 6400000 in
theorem ghangsF (c : Cf) (t : c.Typed) (b1 : Nat) (w : World) (h1 : w.heap[b1]? = some (.cells stepC 89 (0, 0))) : Calls Tryz.prog 71 #[c.val, .pointer (some ⟨b1, 0, none⟩)] w fun e w' => e = .returned (.bool (hangsF c)) ∧ Below w.heap.size w w' := by
  have hA : Below w.heap.size w (w.alloc (.cells (cfCells c) 52)) := (Below.refl _ _).alloc (Nat.le_refl _) _
  have h0 := heap_alloc_new w (.cells (cfCells c) 52)
  have h11 := old_alloc (.cells (cfCells c) 52) h1
  have c2 := gwithinF { data := #[115, 116, 101, 112] } 4562254508917369340 4621819117588971520 46 47 89 #[] c c.step (by decide) (by decide) t.step Tryz.call46 (gof1 c)
  unfold hangsF
  generalize wiE c.step 4562254508917369340 4621819117588971520 = ev at *
  generalize hor : FloatKind.f64.format.order c.panic c.step = ord at *
  clear t h1
  unfold fldF at c2
  unfold cfCells stepC at *
  unfold Cf.val at *
  go_enter Tryz.func71, Tryz.ntmps71
  go_wp2_with (refine at_load_fldF rfl _ rfl _ rfl (by assumption) rfl ?_)
  generalize w.alloc (.cells #[.float .f64 c.step, .float .f64 c.watch, .float .f64 c.panic, .float .f64 c.maxrate, .float .f64 c.phi, .float .f64 c.maxdist, .float .f64 c.gate, .int .i64 c.minpoll, .int .i64 c.maxpoll, .int .i64 c.burst, .int .i64 c.minsane, .int .i64 c.minleft] 52) = w2 at *
  (with_reducible refine (c2 _).mono ?_)
  rintro e w3 ⟨rfl, hB3⟩
  have h03 := (hB3.block _ (Array.getElem?_eq_some_iff.1 h0).1).trans h0
  obtain ⟨b0, b1, b2, b3, b4, b5, b6, b7, b8, b9, b10, b11⟩ := twelve_atK h03
  have hBf := hA.trans (hB3.mono hA.size)
  clear h03 h0 hA hB3 h11
  cases hz : (ev == 0)
  · go_wp2_with fail
    go_ret
    refine ⟨?_, hBf⟩
    simp [hor, hz]
  · go_wp2_with fail
    go_ret
    refine ⟨?_, hBf⟩
    simp [hor, hz]
set_option maxRecDepth 100000 in
set_option maxHeartbeats 6400000 in
theorem ghangsW (c : Cf) (b8 : Nat) (w : World) (h1 : w.heap[b8]? = some (.cells minC 95 (0, 0))) : Calls Tryz.prog 73 #[c.val, .pointer (some ⟨b8, 0, none⟩)] w fun e w' => e = .returned (.bool (hangsW c)) ∧ Below w.heap.size w w' := by
  have hA : Below w.heap.size w (w.alloc (.cells (cfCells c) 52)) := (Below.refl _ _).alloc (Nat.le_refl _) _
  have h0 := heap_alloc_new w (.cells (cfCells c) 52)
  have h11 := old_alloc (.cells (cfCells c) 52) h1
  have c2 := gwithinW { data := #[109, 105, 110, 112, 111, 108, 108] } 4 17 61 62 89 #[] c c.minpoll Tryz.call61 (gof8 c)
  unfold hangsW
  generalize whE c.minpoll 4 17 = ev at *
  clear h1
  unfold fldW at c2
  unfold cfCells minC at *
  unfold Cf.val at *
  go_enter Tryz.func73, Tryz.ntmps73
  go_wp2_with (refine at_load_fldW rfl _ rfl _ rfl (by assumption) rfl ?_)
  generalize w.alloc (.cells #[.float .f64 c.step, .float .f64 c.watch, .float .f64 c.panic, .float .f64 c.maxrate, .float .f64 c.phi, .float .f64 c.maxdist, .float .f64 c.gate, .int .i64 c.minpoll, .int .i64 c.maxpoll, .int .i64 c.burst, .int .i64 c.minsane, .int .i64 c.minleft] 52) = w2 at *
  (with_reducible refine (c2 _).mono ?_)
  rintro e w3 ⟨rfl, hB3⟩
  have h03 := (hB3.block _ (Array.getElem?_eq_some_iff.1 h0).1).trans h0
  obtain ⟨b0, b1, b2, b3, b4, b5, b6, b7, b8, b9, b10, b11⟩ := twelve_atK h03
  have hBf := hA.trans (hB3.mono hA.size)
  clear h03 h0 hA hB3 h11
  cases hz : (ev == 0)
  · go_wp2_with fail
    go_ret
    refine ⟨?_, hBf⟩
    simp [hz]
  · go_wp2_with fail
    go_ret
    refine ⟨?_, hBf⟩
    simp [hz]
end Go.Proofs.YtlidlmgmijndcaaGreat.W
