/- Layer 19: what is standard, and that the clock is set; a discipline that came in, opened. (Written by wip/genLp.py.) -/
import Derived.Test.YtlidlmgmijndcaaGreatLpX
import Derived.Test.YtlidlmgmijndcaaGreatStY
import Derived.Test.YtlidlmgmijndcaaGreatStF
import Derived.Test.YtlidlmgmijndcaaGreatRcA
import Derived.Test.YtlidlmgmijndcaaGreatFixD
import Derived.Test.YtlidlmgmijndcaaGreatHdZ
import Derived.Test.YtlidlmgmijndcaaGreatCkD
import Derived.Test.YtlidlmgmijndcaaGreatRows
import Derived.Test.YtlidlmgmijndcaaGreatWdefs
import Derived.Test.YtlidlmgmijndcaaGreatQtB
import Derived.Test.YtlidlmgmijndcaaGreatChecked
import Derived.WalkKit
import Derived.WalkSpells
import Derived.Lib.Hide
import Derived.Lib.QuietBelow
import Derived.Handy
import Derived.BigQuiet
import Derived.Maps.OwnSet
import Derived.Maps.OwnOps
import Derived.Laws.CopyRow
import Derived.WalkLawsBesides
import Derived.Lib.Zigzag
import Derived.OwnWalk
import Derived.Test.YtlidlmgmijndcaaGreatStK
import Derived.Test.YtlidlmgmijndcaaGreatRowS
import Derived.ProofKit
import Derived.Deep.DeepCutAuto
namespace Go.Proofs.YtlidlmgmijndcaaGreat.W
open Go.RowKit Go.Sort Go.ChangeShapes Go.WideShapes
set_option linter.unusedVariables false
set_option linter.unusedSimpArgs false
set_option maxRecDepth 100000 in
set_option maxHeartbeats 6400000 in
theorem std19_any (w : World) : Calls Tryz.prog 10 #[] w fun e w' => e = .returned (chkP stdC).val ∧ Below w.heap.size w w' := by
  have c1 := gstd_any
  have c2 := gcheck_any stdC std_typed
  unfold Pm.val at *
  generalize stdC.val = sv at *
  generalize chkP stdC = p at *
  have hA := (Below.refl w.heap.size w).alloc (Nat.le_refl _) (.cells #[.int .i64 0, .int .i64 0, .int .i64 0, .int .i64 0, .int .i64 0, .int .i64 0, .int .i64 0, .int .i64 0, .int .i64 0, .int .i64 0, .int .i64 0, .int .i64 0] 25)
  have hr := heap_alloc_new w (.cells #[.int .i64 0, .int .i64 0, .int .i64 0, .int .i64 0, .int .i64 0, .int .i64 0, .int .i64 0, .int .i64 0, .int .i64 0, .int .i64 0, .int .i64 0, .int .i64 0] 25)
  go_enter Tryz.func10, Tryz.ntmps10
  go_wp2_with fail
  generalize w.alloc (.cells #[.int .i64 0, .int .i64 0, .int .i64 0, .int .i64 0, .int .i64 0, .int .i64 0, .int .i64 0, .int .i64 0, .int .i64 0, .int .i64 0, .int .i64 0, .int .i64 0] 25) = w1 at *
  (with_reducible refine (c1 _).mono ?_)
  rintro e w2 ⟨rfl, hB2⟩
  go_wp2_with fail
  (with_reducible refine (c2 _).mono ?_)
  rintro e w3 ⟨rfl, hB3⟩
  have hB13 := hB2.trans (hB3.mono hB2.size)
  have hr3 := (hB13.block _ (Array.getElem?_eq_some_iff.1 hr).1).trans hr
  have hB := hA.trans (hB13.mono hA.size)
  have l3 := (Array.getElem?_eq_some_iff.1 hr3).1
  have hB4 := hB.alloc hB.size (.cells #[.int .i64 p.step, .int .i64 p.watch, .int .i64 p.panic, .int .i64 p.maxrate, .int .i64 p.phi, .int .i64 p.maxdist, .int .i64 p.gate, .int .i64 p.minpoll, .int .i64 p.maxpoll, .int .i64 p.burst, .int .i64 p.minsane, .int .i64 p.minleft] 25)
  have hr4 := (Below.heap_alloc w3 (.cells #[.int .i64 p.step, .int .i64 p.watch, .int .i64 p.panic, .int .i64 p.maxrate, .int .i64 p.phi, .int .i64 p.maxdist, .int .i64 p.gate, .int .i64 p.minpoll, .int .i64 p.maxpoll, .int .i64 p.burst, .int .i64 p.minsane, .int .i64 p.minleft] 25) w.heap.size l3).trans hr3
  have hp4 := heap_alloc_new w3 (.cells #[.int .i64 p.step, .int .i64 p.watch, .int .i64 p.panic, .int .i64 p.maxrate, .int .i64 p.phi, .int .i64 p.maxdist, .int .i64 p.gate, .int .i64 p.minpoll, .int .i64 p.maxpoll, .int .i64 p.burst, .int .i64 p.minsane, .int .i64 p.minleft] 25)
  clear hA hr hB2 hB3 hB13 hr3 hB
  go_upto_region 2 with fail
  generalize w3.alloc (.cells #[.int .i64 p.step, .int .i64 p.watch, .int .i64 p.panic, .int .i64 p.maxrate, .int .i64 p.phi, .int .i64 p.maxdist, .int .i64 p.gate, .int .i64 p.minpoll, .int .i64 p.maxpoll, .int .i64 p.burst, .int .i64 p.minsane, .int .i64 p.minleft] 25) = w4 at *
  have hBf := put12_below (.int .i64 p.step) (.int .i64 p.watch) (.int .i64 p.panic) (.int .i64 p.maxrate) (.int .i64 p.phi) (.int .i64 p.maxdist) (.int .i64 p.gate) (.int .i64 p.minpoll) (.int .i64 p.maxpoll) (.int .i64 p.burst) (.int .i64 p.minsane) (.int .i64 p.minleft) hB4 (Nat.le_refl _)
  have hrf := put12_at (.int .i64 p.step) (.int .i64 p.watch) (.int .i64 p.panic) (.int .i64 p.maxrate) (.int .i64 p.phi) (.int .i64 p.maxdist) (.int .i64 p.gate) (.int .i64 p.minpoll) (.int .i64 p.maxpoll) (.int .i64 p.burst) (.int .i64 p.minsane) (.int .i64 p.minleft) hr4
  have E := Lib.hid (And.intro hrf hBf)
  obtain ⟨r0, r1, r2, r3, r4, r5, r6, r7, r8, r9, r10, r11⟩ := twelve_at hr4
  have fr := twelve_frozen hr4
  obtain ⟨a0, a1, a2, a3, a4, a5, a6, a7, a8, a9, a10, a11⟩ := twelve_at hp4
  clear hr4 hp4 hBf hrf hB4
  unfold put12 at E
  go_wp2_with fail
  obtain ⟨q0, q1, q2, q3, q4, q5, q6, q7, q8, q9, q10, q11⟩ := twelve_at E.out.1
  refine bodyPost_ret (v := .agg #[.int .i64 p.step, .int .i64 p.watch, .int .i64 p.panic, .int .i64 p.maxrate, .int .i64 p.phi, .int .i64 p.maxdist, .int .i64 p.gate, .int .i64 p.minpoll, .int .i64 p.maxpoll, .int .i64 p.burst, .int .i64 p.minsane, .int .i64 p.minleft]) ?_ rfl ?_
  · simp [results, Tryz.results10, go_sem, q0, q1, q2, q3, q4, q5, q6, q7, q8, q9, q10, q11]
  · exact ⟨rfl, E.out.2⟩
theorem seven_in19 {w : World} {p : Nat} {a0 a1 a2 a3 a4 a5 a6 : Value} {t : TypeId} (h : w.heap[p]? = some (.cells #[a0, a1, a2, a3, a4, a5, a6] t (0, 0))) :
    w.cell? ⟨p, 0, none⟩ = some a0 ∧ w.cell? ⟨p, 1, none⟩ = some a1 ∧ w.cell? ⟨p, 2, none⟩ = some a2 ∧ w.cell? ⟨p, 3, none⟩ = some a3 ∧ w.cell? ⟨p, 4, none⟩ = some a4 ∧ w.cell? ⟨p, 5, none⟩ = some a5 ∧ w.cell? ⟨p, 6, none⟩ = some a6 := by
  refine ⟨?_, ?_, ?_, ?_, ?_, ?_, ?_⟩ <;> simp [World.cell?, h]
theorem thaw19 {w : World} {p : Nat} {C : Array Value} {t : TypeId} (h : w.heap[p]? = some (.cells C t (0, 0))) (j : Nat) : w.frozen? ⟨p, j, none⟩ = false := by
  simp [World.frozen?, h]
theorem run_max19 (a b m : Int) (h : max a b = m) (ts : Array TypeId) (t : TypeId) (w : World) : (Builtin.max_ ts t #[.int .i64 a, .int .i64 b]).run Tryz.prog w = .ok (.int .i64 m) w := by
  subst h
  rcases Int.lt_trichotomy a b with h | rfl | h
  · simp [Builtin.max_, Builtin.max2, show max a b = b by omega, h, show ¬ b < a by omega]
  · simp [Builtin.max_, Builtin.max2]
  · simp [Builtin.max_, Builtin.max2, show max a b = a by omega, h, show ¬ a < b by omega]
theorem run_min19 (a b m : Int) (h : min a b = m) (ts : Array TypeId) (t : TypeId) (w : World) : (Builtin.min_ ts t #[.int .i64 a, .int .i64 b]).run Tryz.prog w = .ok (.int .i64 m) w := by
  subst h
  rcases Int.lt_trichotomy a b with h | rfl | h
  · simp [Builtin.min_, Builtin.min2, show min a b = a by omega, h, show ¬ b < a by omega]
  · simp [Builtin.min_, Builtin.min2]
  · simp [Builtin.min_, Builtin.min2, show min a b = b by omega, h, show ¬ a < b by omega]
theorem run_max19u (a b m : Int) (h : max a b = m) (ts : Array TypeId) (t : TypeId) (w : World) : (Builtin.max_ ts t #[.int .u32 a, .int .u32 b]).run Tryz.prog w = .ok (.int .u32 m) w := by
  subst h
  rcases Int.lt_trichotomy a b with h | rfl | h
  · simp [Builtin.max_, Builtin.max2, show max a b = b by omega, h, show ¬ b < a by omega]
  · simp [Builtin.max_, Builtin.max2]
  · simp [Builtin.max_, Builtin.max2, show max a b = a by omega, h, show ¬ a < b by omega]
set_option maxRecDepth 100000 in
theorem open_dc {H : Type} {enc : TypeId × Value → H} {w : World} {base : Nat} {spare : Nat → Bool} {held : Bool} {r : Reach} {b0 : Nat} {v : Value} {d : DataW H} {p : List MemPlace}
    (hv : Value.okWide Tryz.prog w r b0 28 v) (h : DataW.Trod enc Tryz.prog w base spare held 28 v d p) : ∃ h : Dc, v = h.val ∧ h.Typed := by
  obtain ⟨zs, hl, rfl, hw⟩ := open_int_fields [.i64, .i64, .i64, .i64, .i64, .i64, .i64] Tryz.underlying28 (by kernel_rfl) (by kernel_rfl) rfl (by
    intro i f hf
    match i, hf with
    | 0, hf => simp at hf; subst hf; exact ⟨.i64, rfl, Tryz.underlying3⟩
    | 1, hf => simp at hf; subst hf; exact ⟨.i64, rfl, Tryz.underlying2⟩
    | 2, hf => simp at hf; subst hf; exact ⟨.i64, rfl, Tryz.underlying2⟩
    | 3, hf => simp at hf; subst hf; exact ⟨.i64, rfl, Tryz.underlying2⟩
    | 4, hf => simp at hf; subst hf; exact ⟨.i64, rfl, Tryz.underlying2⟩
    | 5, hf => simp at hf; subst hf; exact ⟨.i64, rfl, Tryz.underlying2⟩
    | 6, hf => simp at hf; subst hf; exact ⟨.i64, rfl, Tryz.underlying2⟩
    | n + 7, hf => simp at hf) hv h
  match zs, hl with
  | [st, at_, off, freq, jit, wan, rest], _ =>
    refine ⟨⟨st, at_, off, freq, jit, wan, rest⟩, rfl, ?_⟩
    constructor
    · have := bounds_i64 (hw 0 _ _ rfl rfl)
      dsimp only
      omega
    · have := bounds_i64 (hw 1 _ _ rfl rfl)
      dsimp only
      omega
    · have := bounds_i64 (hw 2 _ _ rfl rfl)
      dsimp only
      omega
    · have := bounds_i64 (hw 3 _ _ rfl rfl)
      dsimp only
      omega
    · have := bounds_i64 (hw 4 _ _ rfl rfl)
      dsimp only
      omega
    · have := bounds_i64 (hw 5 _ _ rfl rfl)
      dsimp only
      omega
    · have := bounds_i64 (hw 6 _ _ rfl rfl)
      dsimp only
      omega
theorem seven_new19 {w : World} {b : Nat} {o0 o1 o2 o3 o4 o5 o6 : Value} {t : TypeId} (a0 a1 a2 a3 a4 a5 a6 : Value) (h : w.heap[b]? = some (.cells #[o0, o1, o2, o3, o4, o5, o6] t (0, 0))) : (((((((w.setCell ⟨b, 0, none⟩ a0).setCell ⟨b, 1, none⟩ a1).setCell ⟨b, 2, none⟩ a2).setCell ⟨b, 3, none⟩ a3).setCell ⟨b, 4, none⟩ a4).setCell ⟨b, 5, none⟩ a5).setCell ⟨b, 6, none⟩ a6).heap[b]? = some (.cells #[a0, a1, a2, a3, a4, a5, a6] t (0, 0)) := by
  have k := (block_set 6 a6 (block_set 5 a5 (block_set 4 a4 (block_set 3 a3 (block_set 2 a2 (block_set 1 a1 (block_set 0 a0 h)))))))
  simp only [List.setIfInBounds_toArray, List.set_cons_zero, List.set_cons_succ] at k
  exact k
theorem seven_below19 {w0 w : World} {b : Nat} (a0 a1 a2 a3 a4 a5 a6 : Value) (h : Below w0.heap.size w0 w) (hb : w0.heap.size ≤ b) : Below w0.heap.size w0 (((((((w.setCell ⟨b, 0, none⟩ a0).setCell ⟨b, 1, none⟩ a1).setCell ⟨b, 2, none⟩ a2).setCell ⟨b, 3, none⟩ a3).setCell ⟨b, 4, none⟩ a4).setCell ⟨b, 5, none⟩ a5).setCell ⟨b, 6, none⟩ a6) :=
  (((((((h.setCell (p := ⟨b, 0, none⟩) hb a0).setCell (p := ⟨b, 1, none⟩) hb a1).setCell (p := ⟨b, 2, none⟩) hb a2).setCell (p := ⟨b, 3, none⟩) hb a3).setCell (p := ⟨b, 4, none⟩) hb a4).setCell (p := ⟨b, 5, none⟩) hb a5).setCell (p := ⟨b, 6, none⟩) hb a6)
theorem quo19 (a : Int) (h0 : -9223372036854775808 ≤ a) (h1 : a ≤ 9223372036854775807) : -4611686018427387904 ≤ Int.tdiv a 2 ∧ Int.tdiv a 2 ≤ 4611686018427387904 := by
  by_cases h : 0 ≤ a
  · rw [Int.tdiv_eq_ediv_of_nonneg h]
    omega
  · have e : Int.tdiv a 2 = -(Int.tdiv (-a) 2) := by rw [Int.neg_tdiv, Int.neg_neg]
    rw [e, Int.tdiv_eq_ediv_of_nonneg (by omega)]
    omega
theorem std_upd {p : Pm} (h : StdL p) : updL p Dc.zero 8589934592 5 6 = ⟨⟨3, 5, 0, 0, 0, 0, 0⟩, 2, 8589934592, 0⟩ := by
  unfold updL
  rw [if_neg (by intro k; have := k.1.1; revert this; decide), h.step, if_pos (by decide)]
  rfl
set_option maxRecDepth 100000 in
set_option maxHeartbeats 6400000 in
theorem shown19_any (w : World) : Calls Tryz.prog 9 #[] w fun e w' => e = .returned (.bool true) ∧ Below w.heap.size w w' := by
  have c1 := std19_any
  have H := std_params
  have hl := std_loop
  generalize chkP stdC = p at *
  have c2 := lpstart_any p H.typed (by have := hl.maxrate; omega) 0 (by decide) false
  have c3 := lpupd_any p H.typed (by have := hl.maxrate; omega) Dc.zero ⟨by decide, by decide, by decide, by decide, by decide, by decide, by decide⟩ 8589934592 5 6 (by decide) (by decide) (by decide)
  rw [show startL p 0 false = Dc.zero from rfl] at c2
  rw [std_upd hl] at c3
  unfold Pm.val Dc.val Dc.zero at *
  dsimp only at *
  clear H hl
  go_enter Tryz.func9, Tryz.ntmps9
  go_wp2_with fail
  (with_reducible refine (c1 _).mono ?_)
  rintro e w1 ⟨rfl, B1⟩
  go_wp2_with fail
  (with_reducible refine (c1 _).mono ?_)
  rintro e w2 ⟨rfl, hw⟩
  have B2 := B1.trans (hw.mono B1.size)
  clear hw B1
  go_wp2_with fail
  (with_reducible refine (c2 _).mono ?_)
  rintro e w3 ⟨rfl, hw⟩
  have B3 := B2.trans (hw.mono B2.size)
  clear hw B2
  go_wp2_with fail
  (with_reducible refine (c3 _).mono ?_)
  rintro e w4 ⟨rfl, hw⟩
  have B4 := B3.trans (hw.mono B3.size)
  have B5 := B4.alloc B4.size (.cells #[.int .i64 3, .int .i64 5, .int .i64 0, .int .i64 0, .int .i64 0, .int .i64 0, .int .i64 0] 28)
  clear hw B3 B4
  go_wp2_with fail
  go_ret
  exact ⟨rfl, B5⟩
end Go.Proofs.YtlidlmgmijndcaaGreat.W
