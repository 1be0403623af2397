/- Layer 19's own code, walked: what is smoothed, held, turned, slewed; where a discipline begins. -/
import Derived.Test.YtlidlmgmijndcaaGreatLpA
import Derived.Test.YtlidlmgmijndcaaGreatChecked
import Derived.Test.YtlidlmgmijndcaaGreatFixB
import Derived.Test.YtlidlmgmijndcaaGreatFixC
import Derived.Test.YtlidlmgmijndcaaGreatFixD
import Derived.Test.YtlidlmgmijndcaaGreatQtB
import Derived.Test.YtlidlmgmijndcaaGreatCkD
import Derived.Test.YtlidlmgmijndcaaGreatStK
import Derived.Test.YtlidlmgmijndcaaGreatWdefs
import Derived.RegionCalls
import Derived.BigQuiet
import Derived.Lib.Hide
import Derived.Lib.QuietBelow
import Derived.WalkKit
import Derived.Handy
import Derived.WideShapes
import Derived.Deep.DeepCutAuto
namespace Go.Proofs.YtlidlmgmijndcaaGreat.W
open Go.RowKit Go.Sort Go.WideShapes
set_option linter.unusedVariables false
set_option linter.unusedSimpArgs false
theorem rangeM19 (a b : Int) : -9223372036854775808 ≤ mulI a b ∧ mulI a b ≤ 9223372036854775807 := by have := cutI_range (a * b / 4294967296); unfold mulI; omega
theorem rangeS19 (a b : Int) : -9223372036854775808 ≤ subI a b ∧ subI a b ≤ 9223372036854775807 := by have := cutI_range (a - b); unfold subI; omega
theorem rangeA19 (a b : Int) : -9223372036854775808 ≤ addI a b ∧ addI a b ≤ 9223372036854775807 := by have := cutI_range (a + b); unfold addI; omega
theorem rangeD19 (a b : Int) : -9223372036854775808 ≤ divI a b ∧ divI a b ≤ 9223372036854775807 := by have := divI_range a b; omega
theorem rangeH19 (a n : Int) : -9223372036854775808 ≤ shiftI a n ∧ shiftI a n ≤ 9223372036854775807 := by have := shiftI_range a n; omega
theorem rangeC19 (a b c : Int) : -9223372036854775808 ≤ clampI a b c ∧ clampI a b c ≤ 9223372036854775807 := by have := cutI_range (if a < b then b else if c < a then c else a); unfold clampI; omega
theorem rangeT19 (a b : Int) : -9223372036854775808 ≤ smoothL a b ∧ smoothL a b ≤ 9223372036854775807 := by
  unfold smoothL
  have h1 := rootI_lt (addI (mulI a a) (shiftI (subI (mulI b b) (mulI a a)) (-2))) (cutI_range _).2
  have h2 := rootI_nonneg (addI (mulI a a) (shiftI (subI (mulI b b) (mulI a a)) (-2)))
  omega
theorem maxD19 (a b m : Int) (h : max a b = m) (ts : Array TypeId) (t : TypeId) (w : World) : (Builtin.max_ ts t #[.int .i64 a, .int .i64 b]).run Tryz.prog w = .ok (.int .i64 m) w := by
  subst h
  rcases Int.lt_trichotomy a b with h | rfl | h
  · simp [Builtin.max_, Builtin.max2, show max a b = b by omega, h, show ¬ b < a by omega]
  · simp [Builtin.max_, Builtin.max2]
  · simp [Builtin.max_, Builtin.max2, show max a b = a by omega, h, show ¬ a < b by omega]
theorem minD19 (a b m : Int) (h : min a b = m) (ts : Array TypeId) (t : TypeId) (w : World) : (Builtin.min_ ts t #[.int .i64 a, .int .i64 b]).run Tryz.prog w = .ok (.int .i64 m) w := by
  subst h
  rcases Int.lt_trichotomy a b with h | rfl | h
  · simp [Builtin.min_, Builtin.min2, show min a b = a by omega, h, show ¬ b < a by omega]
  · simp [Builtin.min_, Builtin.min2]
  · simp [Builtin.min_, Builtin.min2, show min a b = b by omega, h, show ¬ a < b by omega]
set_option maxRecDepth 100000 in
set_option maxHeartbeats 3200000 in
theorem lpsmooth_any (a b : Int) (a0 : -9223372036854775808 ≤ a ∧ a ≤ 9223372036854775807) (b0 : -9223372036854775808 ≤ b ∧ b ≤ 9223372036854775807) (w : World) :
    Calls Tryz.prog 14 #[.int .i64 a, .int .i64 b] w fun e w' => e = .returned (.int .i64 (smoothL a b)) ∧ Below w.heap.size w w' := by
  have c1 := fmul_any a a a0.1 a0.2 a0.1 a0.2
  have c2 := fmul_any b b b0.1 b0.2 b0.1 b0.2
  have r1 := rangeM19 a a
  have r2 := rangeM19 b b
  have c3 := sub_any (mulI b b) (mulI a a) r2.1 r2.2 r1.1 r1.2
  have r3 := rangeS19 (mulI b b) (mulI a a)
  have c4 := shift_any (subI (mulI b b) (mulI a a)) (-2) r3.1 r3.2 (by decide) (by decide)
  have r4 := rangeH19 (subI (mulI b b) (mulI a a)) (-2)
  have c5 := add_any (mulI a a) (shiftI (subI (mulI b b) (mulI a a)) (-2)) r1.1 r1.2 r4.1 r4.2
  have r5 := rangeA19 (mulI a a) (shiftI (subI (mulI b b) (mulI a a)) (-2))
  have c6 := fsqrt_any (addI (mulI a a) (shiftI (subI (mulI b b) (mulI a a)) (-2))) r5.1 r5.2
  unfold smoothL
  generalize mulI a a = x1 at *
  generalize mulI b b = x2 at *
  generalize subI x2 x1 = x3 at *
  generalize shiftI x3 (-2) = x4 at *
  generalize addI x1 x4 = x5 at *
  generalize rootI x5 = x6 at *
  clear r1 r2 r3 r4 r5 a0 b0
  go_enter Tryz.func14, Tryz.ntmps14
  go_wp2_with fail
  (with_reducible refine (c1 _).mono ?_)
  rintro e w1 ⟨rfl, B1⟩
  go_wp2_with fail
  (with_reducible refine (c2 _).mono ?_)
  rintro e w2 ⟨rfl, B2⟩
  go_wp2_with fail
  (with_reducible refine (c3 _).mono ?_)
  rintro e w3 ⟨rfl, rfl⟩
  go_wp2_with fail
  (with_reducible refine (c4 _).mono ?_)
  rintro e w4 ⟨rfl, rfl⟩
  go_wp2_with fail
  (with_reducible refine (c5 _).mono ?_)
  rintro e w5 ⟨rfl, rfl⟩
  go_wp2_with fail
  (with_reducible refine (c6 _).mono ?_)
  rintro e w6 ⟨rfl, B6⟩
  go_wp2_with fail
  go_ret
  have B12 := B1.trans (B2.mono B1.size)
  exact ⟨rfl, B12.trans (B6.mono B12.size)⟩
/-- p's greatest rate may be turned. -/
theorem neg_rate19 {m : Int} (h : -9223372036854775807 ≤ m) (h' : m ≤ 9223372036854775807) : IntKind.i64.wrap (-m) = subI 0 m := by
  rw [IntKind.wrap_i64]
  unfold subI cutI
  omega
set_option maxRecDepth 100000 in
set_option maxHeartbeats 3200000 in
theorem lphold_any (p : Pm) (t : p.Typed) (hm : -9223372036854775807 ≤ p.maxrate) (f : Int) (f0 : -9223372036854775808 ≤ f ∧ f ≤ 9223372036854775807) (w : World) :
    Calls Tryz.prog 18 #[p.val, .int .i64 f] w fun e w' => e = .returned (.int .i64 (holdL p f)) ∧ Below w.heap.size w w' := by
  have v := neg_rate19 hm t.maxrate.2
  have r := rangeS19 0 p.maxrate
  have c := clamp_any f (subI 0 p.maxrate) p.maxrate f0.1 f0.2 r.1 r.2 t.maxrate.1 t.maxrate.2
  unfold holdL
  generalize subI 0 p.maxrate = n at *
  generalize clampI f n p.maxrate = y at *
  have hp := heap_alloc_new w (.cells (pmC p) 25)
  have hB := (Below.refl w.heap.size w).alloc (Nat.le_refl _) (.cells (pmC p) 25)
  unfold Pm.val
  unfold pmC at *
  clear r t hm f0
  go_enter Tryz.func18, Tryz.ntmps18
  go_upto_region 1 with fail
  generalize w.alloc (.cells #[.int .i64 p.step, .int .i64 p.watch, .int .i64 p.panic, .int .i64 p.maxrate, .int .i64 p.phi, .int .i64 p.maxdist, .int .i64 p.gate, .int .i64 p.minpoll, .int .i64 p.maxpoll, .int .i64 p.burst, .int .i64 p.minsane, .int .i64 p.minleft] 25) = w1 at *
  obtain ⟨q0, q1, q2, q3, q4, q5, q6, q7, q8, q9, q10, q11⟩ := twelve_atK hp
  clear hp q0 q1 q2 q4 q5 q6 q7 q8 q9 q10 q11
  go_wp2_with fail
  (with_reducible refine (c _).mono ?_)
  rintro e w2 ⟨rfl, rfl⟩
  go_wp2_with fail
  go_ret
  exact ⟨rfl, hB⟩
set_option maxRecDepth 100000 in
set_option maxHeartbeats 3200000 in
theorem lpwithin_any (n : Int) (w : World) :
    Calls Tryz.prog 24 #[.int .i64 n] w fun e w' => e = .returned (.int .i64 (pollL n)) ∧ w = w' := by
  have m1 := fun ts t => minD19 n 17 (min n 17) rfl ts t
  have m2 := fun ts t => maxD19 4 (min n 17) (pollL n) rfl ts t
  generalize pollL n = y at *
  generalize min n 17 = x at *
  go_enter Tryz.func24, Tryz.ntmps24
  go_wp2_with fail
  go_ret
  exact ⟨rfl, rfl⟩
/-- What a state counts as. -/
def stateI (d : Dc) : Int := if d.st < 0 ∨ 5 ≤ d.st then 0 else d.st
abbrev dcC (d : Dc) : Array Value := #[.int .i64 d.st, .int .i64 d.at_, .int .i64 d.off, .int .i64 d.freq, .int .i64 d.jit, .int .i64 d.wan, .int .i64 d.rest]
theorem seven_inD {w : World} {p : Nat} {a0 a1 a2 a3 a4 a5 a6 : Value} {t : TypeId} (h : w.heap[p]? = some (.cells #[a0, a1, a2, a3, a4, a5, a6] t (0, 0))) :
    w.cell? ⟨p, 0, none⟩ = some a0 ∧ w.cell? ⟨p, 1, none⟩ = some a1 ∧ w.cell? ⟨p, 2, none⟩ = some a2 ∧ w.cell? ⟨p, 3, none⟩ = some a3 ∧ w.cell? ⟨p, 4, none⟩ = some a4 ∧ w.cell? ⟨p, 5, none⟩ = some a5 ∧ w.cell? ⟨p, 6, none⟩ = some a6 := by
  refine ⟨?_, ?_, ?_, ?_, ?_, ?_, ?_⟩ <;> simp [World.cell?, h]
set_option maxRecDepth 100000 in
set_option maxHeartbeats 3200000 in
theorem lpstate_any (d : Dc) (w : World) :
    Calls Tryz.prog 19 #[d.val] w fun e w' => e = .returned (.int .i64 (stateI d)) ∧ Below w.heap.size w w' := by
  have hd := heap_alloc_new w (.cells (dcC d) 28)
  have hB := (Below.refl w.heap.size w).alloc (Nat.le_refl _) (.cells (dcC d) 28)
  unfold Dc.val stateI
  unfold dcC at *
  by_cases h1 : d.st < 0
  · have g1 : decide (d.st < 0) = true := decide_eq_true h1
    rw [if_pos (.inl h1)]
    go_enter Tryz.func19, Tryz.ntmps19
    go_upto_region 1 with fail
    generalize w.alloc (.cells #[.int .i64 d.st, .int .i64 d.at_, .int .i64 d.off, .int .i64 d.freq, .int .i64 d.jit, .int .i64 d.wan, .int .i64 d.rest] 28) = w1 at *
    obtain ⟨q0, q1, q2, q3, q4, q5, q6⟩ := seven_inD hd
    clear hd q1 q2 q3 q4 q5 q6 h1
    go_wp2_with fail
    go_ret
    exact ⟨rfl, hB⟩
  · have g1 : decide (d.st < 0) = false := decide_eq_false h1
    by_cases h2 : 5 ≤ d.st
    · have g2 : decide (5 ≤ d.st) = true := decide_eq_true h2
      rw [if_pos (.inr h2)]
      go_enter Tryz.func19, Tryz.ntmps19
      go_upto_region 1 with fail
      generalize w.alloc (.cells #[.int .i64 d.st, .int .i64 d.at_, .int .i64 d.off, .int .i64 d.freq, .int .i64 d.jit, .int .i64 d.wan, .int .i64 d.rest] 28) = w1 at *
      obtain ⟨q0, q1, q2, q3, q4, q5, q6⟩ := seven_inD hd
      clear hd q1 q2 q3 q4 q5 q6 h1 h2
      go_wp2_with fail
      go_ret
      exact ⟨rfl, hB⟩
    · have g2 : decide (5 ≤ d.st) = false := decide_eq_false h2
      rw [if_neg (by omega)]
      go_enter Tryz.func19, Tryz.ntmps19
      go_upto_region 1 with fail
      generalize w.alloc (.cells #[.int .i64 d.st, .int .i64 d.at_, .int .i64 d.off, .int .i64 d.freq, .int .i64 d.jit, .int .i64 d.wan, .int .i64 d.rest] 28) = w1 at *
      obtain ⟨q0, q1, q2, q3, q4, q5, q6⟩ := seven_inD hd
      clear hd q1 q2 q3 q4 q5 q6 h1 h2
      go_wp2_with fail
      go_ret
      exact ⟨rfl, hB⟩
end Go.Proofs.YtlidlmgmijndcaaGreat.W
