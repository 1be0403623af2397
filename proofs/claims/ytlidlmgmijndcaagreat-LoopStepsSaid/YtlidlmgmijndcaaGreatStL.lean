/- Layer 10's own code, walked: why a field is a fault; a field told. -/
import Derived.Test.YtlidlmgmijndcaaGreatStK
import Derived.Laws.AppendOwn
namespace Go.Proofs.YtlidlmgmijndcaaGreat.W
open Go.RowKit Go.Sort
set_option linter.unusedVariables false
set_option linter.unusedSimpArgs false
set_option maxRecDepth 100000 in
set_option maxHeartbeats 6400000 in
theorem gfaultF (nm : ByteArray) (lo hi : Nat) (f g h : Nat) (cs : Array Value) (c : Cf) (x : Nat) (hlo : lo < 18446744073709551616) (hhi : hi < 18446744073709551616) (hx : x < 18446744073709551616)
    (ef : ∀ (args : Array Value) (w : World), (callFunc f args).run Tryz.prog w = .ok (.enter f args) w) (hof : ∀ w : World, Calls Tryz.prog f #[c.val] w fun e w' => e = .returned (.float .f64 x) ∧ Below w.heap.size w w')
    (eh : ∀ (args : Array Value) (w : World), (callFunc h args).run Tryz.prog w = .ok (.enter h args) w) (q : Bool) (w : World) (hfit : ∀ w1 : World, Below w.heap.size w w1 → Calls Tryz.prog h (#[c.val] ++ cs) w1 fun e w' => e = .returned (.bool q) ∧ Below w1.heap.size w1 w') :
    Calls Tryz.prog 129 #[fldF nm lo hi f g h cs, c.val] w fun e w' => e = .returned (.int .i64 (if wiE x lo hi ≠ 0 then wiE x lo hi else if q = true then 0 else 100)) ∧ Below w.heap.size w w' := by
  have hA : Below w.heap.size w ((w.alloc (.cells #[.string nm, .float .f64 lo, .float .f64 hi, .func (.func f) #[] #[], .func (.func g) #[] #[], .func (.func 88) #[] #[], .func (.func h) #[] cs] 89)).alloc (.cells (cfCells c) 52)) := ((Below.refl _ _).alloc (Nat.le_refl _) _).alloc (by simp) _
  have h0 := (Below.heap_alloc (w.alloc (.cells #[.string nm, .float .f64 lo, .float .f64 hi, .func (.func f) #[] #[], .func (.func g) #[] #[], .func (.func 88) #[] #[], .func (.func h) #[] cs] 89)) (.cells (cfCells c) 52) w.heap.size (by simp)).trans (heap_alloc_new w _)
  have h1 := heap_alloc_new (w.alloc (.cells #[.string nm, .float .f64 lo, .float .f64 hi, .func (.func f) #[] #[], .func (.func g) #[] #[], .func (.func 88) #[] #[], .func (.func h) #[] cs] 89)) (.cells (cfCells c) 52)
  rw [World.size_alloc] at h1
  have c2 := gboundF nm lo hi f g h cs c x hlo hhi hx ef hof
  generalize wiV x lo hi = v at *
  generalize wiE x lo hi = ev at *
  clear hlo hhi hx hof ef
  unfold fldF at *
  unfold cfCells at *
  unfold Cf.val at *
  by_cases he : ev = 0
  · subst he
    rw [if_neg (by decide)]
    go_enter Tryz.func129, Tryz.ntmps129
    go_wp2_with fail
    generalize (w.alloc (.cells #[.string nm, .float .f64 lo, .float .f64 hi, .func (.func f) #[] #[], .func (.func g) #[] #[], .func (.func 88) #[] #[], .func (.func h) #[] cs] 89)).alloc (.cells #[.float .f64 c.step, .float .f64 c.watch, .float .f64 c.panic, .float .f64 c.maxrate, .float .f64 c.phi, .float .f64 c.maxdist, .float .f64 c.gate, .int .i64 c.minpoll, .int .i64 c.maxpoll, .int .i64 c.burst, .int .i64 c.minsane, .int .i64 c.minleft] 52) = w2 at *
    (with_reducible refine (c2 _).mono ?_)
    rintro e w3 ⟨rfl, hB3⟩
    have h03 := (hB3.block _ (Array.getElem?_eq_some_iff.1 h0).1).trans h0
    have h13 := (hB3.block _ (Array.getElem?_eq_some_iff.1 h1).1).trans h1
    have hb3 := hA.trans (hB3.mono hA.size)
    have hf3 := hfit w3 hb3
    obtain ⟨a0, a1, a2, a3, a4, a5, a6⟩ := seven_at h03
    obtain ⟨b0, b1, b2, b3, b4, b5, b6, b7, b8, b9, b10, b11⟩ := twelve_atK h13
    have B := Lib.hid hb3
    clear h03 h13 hA h0 h1 hB3 hb3 c2 hfit
    go_wp2_with fail
    (with_reducible refine hf3.mono ?_)
    rintro e w4 ⟨rfl, hB4⟩
    have hBf := B.out.trans (hB4.mono B.out.size)
    clear a0 a1 a2 a3 a4 a5 a6 b0 b1 b2 b3 b4 b5 b6 b7 b8 b9 b10 b11
    cases q
    · go_wp2_with fail
      go_ret
      exact ⟨rfl, hBf⟩
    · go_wp2_with fail
      go_ret
      exact ⟨rfl, hBf⟩
  · rw [if_pos he]
    have heb : (ev != 0) = true := bne_iff_ne.2 he
    go_enter Tryz.func129, Tryz.ntmps129
    go_wp2_with fail
    generalize (w.alloc (.cells #[.string nm, .float .f64 lo, .float .f64 hi, .func (.func f) #[] #[], .func (.func g) #[] #[], .func (.func 88) #[] #[], .func (.func h) #[] cs] 89)).alloc (.cells #[.float .f64 c.step, .float .f64 c.watch, .float .f64 c.panic, .float .f64 c.maxrate, .float .f64 c.phi, .float .f64 c.maxdist, .float .f64 c.gate, .int .i64 c.minpoll, .int .i64 c.maxpoll, .int .i64 c.burst, .int .i64 c.minsane, .int .i64 c.minleft] 52) = w2 at *
    (with_reducible refine (c2 _).mono ?_)
    rintro e w3 ⟨rfl, hB3⟩
    have hBf := hA.trans (hB3.mono hA.size)
    clear h0 h1 hA hB3 hfit
    go_wp2_with fail
    go_ret
    exact ⟨rfl, hBf⟩
set_option maxRecDepth 100000 in
set_option maxHeartbeats 6400000 in
theorem gtellF (nm : ByteArray) (lo hi : Nat) (f g h : Nat) (cs : Array Value) (c : Cf) (x : Nat) (hlo : lo < 18446744073709551616) (hhi : hi < 18446744073709551616) (hx : x < 18446744073709551616)
    (ef : ∀ (args : Array Value) (w : World), (callFunc f args).run Tryz.prog w = .ok (.enter f args) w) (hof : ∀ w : World, Calls Tryz.prog f #[c.val] w fun e w' => e = .returned (.float .f64 x) ∧ Below w.heap.size w w')
    (eg : ∀ (args : Array Value) (w : World), (callFunc g args).run Tryz.prog w = .ok (.enter g args) w) (p j : Nat) (w : World)
    (hput : ∀ w1 : World, Below w.heap.size w w1 → Calls Tryz.prog g #[.pointer (some ⟨p, 0, none⟩), .int .i64 (wiV x lo hi)] w1 fun e w' => e = .returned (.tuple #[]) ∧ w' = w1.setCell ⟨p, j, none⟩ (.int .i64 (wiV x lo hi))) :
    Calls Tryz.prog 130 #[fldF nm lo hi f g h cs, c.val, .pointer (some ⟨p, 0, none⟩)] w fun e w' => e = .returned (.tuple #[]) ∧ ∃ w1, w' = w1.setCell ⟨p, j, none⟩ (.int .i64 (wiV x lo hi)) ∧ Below w.heap.size w w1 := by
  have hA : Below w.heap.size w ((w.alloc (.cells #[.string nm, .float .f64 lo, .float .f64 hi, .func (.func f) #[] #[], .func (.func g) #[] #[], .func (.func 88) #[] #[], .func (.func h) #[] cs] 89)).alloc (.cells (cfCells c) 52)) := ((Below.refl _ _).alloc (Nat.le_refl _) _).alloc (by simp) _
  have h0 := (Below.heap_alloc (w.alloc (.cells #[.string nm, .float .f64 lo, .float .f64 hi, .func (.func f) #[] #[], .func (.func g) #[] #[], .func (.func 88) #[] #[], .func (.func h) #[] cs] 89)) (.cells (cfCells c) 52) w.heap.size (by simp)).trans (heap_alloc_new w _)
  have c2 := gboundF nm lo hi f g h cs c x hlo hhi hx ef hof
  generalize wiV x lo hi = v at *
  generalize wiE x lo hi = ev at *
  clear hlo hhi hx hof ef
  unfold fldF at *
  unfold cfCells at *
  unfold Cf.val at *
  go_enter Tryz.func130, Tryz.ntmps130
  go_wp2_with fail
  generalize (w.alloc (.cells #[.string nm, .float .f64 lo, .float .f64 hi, .func (.func f) #[] #[], .func (.func g) #[] #[], .func (.func 88) #[] #[], .func (.func h) #[] cs] 89)).alloc (.cells #[.float .f64 c.step, .float .f64 c.watch, .float .f64 c.panic, .float .f64 c.maxrate, .float .f64 c.phi, .float .f64 c.maxdist, .float .f64 c.gate, .int .i64 c.minpoll, .int .i64 c.maxpoll, .int .i64 c.burst, .int .i64 c.minsane, .int .i64 c.minleft] 52) = w2 at *
  (with_reducible refine (c2 _).mono ?_)
  rintro e w3 ⟨rfl, hB3⟩
  have h03 := (hB3.block _ (Array.getElem?_eq_some_iff.1 h0).1).trans h0
  have hb3 := hA.trans (hB3.mono hA.size)
  have hf3 := hput w3 hb3
  obtain ⟨a0, a1, a2, a3, a4, a5, a6⟩ := seven_at h03
  have B := Lib.hid hb3
  clear h03 hA h0 hB3 hb3 c2 hput
  go_wp2_with fail
  (with_reducible refine hf3.mono ?_)
  rintro e w4 ⟨rfl, rfl⟩
  go_wp2_with fail
  go_end0
  exact ⟨rfl, _, rfl, B.out⟩
set_option maxRecDepth 100000 in
set_option maxHeartbeats 6400000 in
theorem gfaultW (nm : ByteArray) (lo hi : Int) (f g h : Nat) (cs : Array Value) (c : Cf) (x : Int)
    (ef : ∀ (args : Array Value) (w : World), (callFunc f args).run Tryz.prog w = .ok (.enter f args) w) (hof : ∀ w : World, Calls Tryz.prog f #[c.val] w fun e w' => e = .returned (.int .i64 x) ∧ Below w.heap.size w w')
    (eh : ∀ (args : Array Value) (w : World), (callFunc h args).run Tryz.prog w = .ok (.enter h args) w) (q : Bool) (w : World) (hfit : ∀ w1 : World, Below w.heap.size w w1 → Calls Tryz.prog h (#[c.val] ++ cs) w1 fun e w' => e = .returned (.bool q) ∧ Below w1.heap.size w1 w') :
    Calls Tryz.prog 132 #[fldW nm lo hi f g h cs, c.val] w fun e w' => e = .returned (.int .i64 (if whE x lo hi ≠ 0 then whE x lo hi else if q = true then 0 else 100)) ∧ Below w.heap.size w w' := by
  have hA : Below w.heap.size w ((w.alloc (.cells #[.string nm, .int .i64 lo, .int .i64 hi, .func (.func f) #[] #[], .func (.func g) #[] #[], .func (.func 90) #[] #[], .func (.func h) #[] cs] 95)).alloc (.cells (cfCells c) 52)) := ((Below.refl _ _).alloc (Nat.le_refl _) _).alloc (by simp) _
  have h0 := (Below.heap_alloc (w.alloc (.cells #[.string nm, .int .i64 lo, .int .i64 hi, .func (.func f) #[] #[], .func (.func g) #[] #[], .func (.func 90) #[] #[], .func (.func h) #[] cs] 95)) (.cells (cfCells c) 52) w.heap.size (by simp)).trans (heap_alloc_new w _)
  have h1 := heap_alloc_new (w.alloc (.cells #[.string nm, .int .i64 lo, .int .i64 hi, .func (.func f) #[] #[], .func (.func g) #[] #[], .func (.func 90) #[] #[], .func (.func h) #[] cs] 95)) (.cells (cfCells c) 52)
  rw [World.size_alloc] at h1
  have c2 := gboundW nm lo hi f g h cs c x ef hof
  generalize whV x lo hi = v at *
  generalize whE x lo hi = ev at *
  clear hof ef
  unfold fldW at *
  unfold cfCells at *
  unfold Cf.val at *
  by_cases he : ev = 0
  · subst he
    rw [if_neg (by decide)]
    go_enter Tryz.func132, Tryz.ntmps132
    go_wp2_with fail
    generalize (w.alloc (.cells #[.string nm, .int .i64 lo, .int .i64 hi, .func (.func f) #[] #[], .func (.func g) #[] #[], .func (.func 90) #[] #[], .func (.func h) #[] cs] 95)).alloc (.cells #[.float .f64 c.step, .float .f64 c.watch, .float .f64 c.panic, .float .f64 c.maxrate, .float .f64 c.phi, .float .f64 c.maxdist, .float .f64 c.gate, .int .i64 c.minpoll, .int .i64 c.maxpoll, .int .i64 c.burst, .int .i64 c.minsane, .int .i64 c.minleft] 52) = w2 at *
    (with_reducible refine (c2 _).mono ?_)
    rintro e w3 ⟨rfl, hB3⟩
    have h03 := (hB3.block _ (Array.getElem?_eq_some_iff.1 h0).1).trans h0
    have h13 := (hB3.block _ (Array.getElem?_eq_some_iff.1 h1).1).trans h1
    have hb3 := hA.trans (hB3.mono hA.size)
    have hf3 := hfit w3 hb3
    obtain ⟨a0, a1, a2, a3, a4, a5, a6⟩ := seven_at h03
    obtain ⟨b0, b1, b2, b3, b4, b5, b6, b7, b8, b9, b10, b11⟩ := twelve_atK h13
    have B := Lib.hid hb3
    clear h03 h13 hA h0 h1 hB3 hb3 c2 hfit
    go_wp2_with fail
    (with_reducible refine hf3.mono ?_)
    rintro e w4 ⟨rfl, hB4⟩
    have hBf := B.out.trans (hB4.mono B.out.size)
    clear a0 a1 a2 a3 a4 a5 a6 b0 b1 b2 b3 b4 b5 b6 b7 b8 b9 b10 b11
    cases q
    · go_wp2_with fail
      go_ret
      exact ⟨rfl, hBf⟩
    · go_wp2_with fail
      go_ret
      exact ⟨rfl, hBf⟩
  · rw [if_pos he]
    have heb : (ev != 0) = true := bne_iff_ne.2 he
    go_enter Tryz.func132, Tryz.ntmps132
    go_wp2_with fail
    generalize (w.alloc (.cells #[.string nm, .int .i64 lo, .int .i64 hi, .func (.func f) #[] #[], .func (.func g) #[] #[], .func (.func 90) #[] #[], .func (.func h) #[] cs] 95)).alloc (.cells #[.float .f64 c.step, .float .f64 c.watch, .float .f64 c.panic, .float .f64 c.maxrate, .float .f64 c.phi, .float .f64 c.maxdist, .float .f64 c.gate, .int .i64 c.minpoll, .int .i64 c.maxpoll, .int .i64 c.burst, .int .i64 c.minsane, .int .i64 c.minleft] 52) = w2 at *
    (with_reducible refine (c2 _).mono ?_)
    rintro e w3 ⟨rfl, hB3⟩
    have hBf := hA.trans (hB3.mono hA.size)
    clear h0 h1 hA hB3 hfit
    go_wp2_with fail
    go_ret
    exact ⟨rfl, hBf⟩
set_option maxRecDepth 100000 in
set_option maxHeartbeats 6400000 in
theorem gtellW (nm : ByteArray) (lo hi : Int) (f g h : Nat) (cs : Array Value) (c : Cf) (x : Int)
    (ef : ∀ (args : Array Value) (w : World), (callFunc f args).run Tryz.prog w = .ok (.enter f args) w) (hof : ∀ w : World, Calls Tryz.prog f #[c.val] w fun e w' => e = .returned (.int .i64 x) ∧ Below w.heap.size w w')
    (eg : ∀ (args : Array Value) (w : World), (callFunc g args).run Tryz.prog w = .ok (.enter g args) w) (p j : Nat) (w : World)
    (hput : ∀ w1 : World, Below w.heap.size w w1 → Calls Tryz.prog g #[.pointer (some ⟨p, 0, none⟩), .int .i64 (whV x lo hi)] w1 fun e w' => e = .returned (.tuple #[]) ∧ w' = w1.setCell ⟨p, j, none⟩ (.int .i64 (whV x lo hi))) :
    Calls Tryz.prog 133 #[fldW nm lo hi f g h cs, c.val, .pointer (some ⟨p, 0, none⟩)] w fun e w' => e = .returned (.tuple #[]) ∧ ∃ w1, w' = w1.setCell ⟨p, j, none⟩ (.int .i64 (whV x lo hi)) ∧ Below w.heap.size w w1 := by
  have hA : Below w.heap.size w ((w.alloc (.cells #[.string nm, .int .i64 lo, .int .i64 hi, .func (.func f) #[] #[], .func (.func g) #[] #[], .func (.func 90) #[] #[], .func (.func h) #[] cs] 95)).alloc (.cells (cfCells c) 52)) := ((Below.refl _ _).alloc (Nat.le_refl _) _).alloc (by simp) _
  have h0 := (Below.heap_alloc (w.alloc (.cells #[.string nm, .int .i64 lo, .int .i64 hi, .func (.func f) #[] #[], .func (.func g) #[] #[], .func (.func 90) #[] #[], .func (.func h) #[] cs] 95)) (.cells (cfCells c) 52) w.heap.size (by simp)).trans (heap_alloc_new w _)
  have c2 := gboundW nm lo hi f g h cs c x ef hof
  generalize whV x lo hi = v at *
  generalize whE x lo hi = ev at *
  clear hof ef
  unfold fldW at *
  unfold cfCells at *
  unfold Cf.val at *
  go_enter Tryz.func133, Tryz.ntmps133
  go_wp2_with fail
  generalize (w.alloc (.cells #[.string nm, .int .i64 lo, .int .i64 hi, .func (.func f) #[] #[], .func (.func g) #[] #[], .func (.func 90) #[] #[], .func (.func h) #[] cs] 95)).alloc (.cells #[.float .f64 c.step, .float .f64 c.watch, .float .f64 c.panic, .float .f64 c.maxrate, .float .f64 c.phi, .float .f64 c.maxdist, .float .f64 c.gate, .int .i64 c.minpoll, .int .i64 c.maxpoll, .int .i64 c.burst, .int .i64 c.minsane, .int .i64 c.minleft] 52) = w2 at *
  (with_reducible refine (c2 _).mono ?_)
  rintro e w3 ⟨rfl, hB3⟩
  have h03 := (hB3.block _ (Array.getElem?_eq_some_iff.1 h0).1).trans h0
  have hb3 := hA.trans (hB3.mono hA.size)
  have hf3 := hput w3 hb3
  obtain ⟨a0, a1, a2, a3, a4, a5, a6⟩ := seven_at h03
  have B := Lib.hid hb3
  clear h03 hA h0 hB3 hb3 c2 hput
  go_wp2_with fail
  (with_reducible refine hf3.mono ?_)
  rintro e w4 ⟨rfl, rfl⟩
  go_wp2_with fail
  go_end0
  exact ⟨rfl, _, rfl, B.out⟩
end Go.Proofs.YtlidlmgmijndcaaGreat.W
