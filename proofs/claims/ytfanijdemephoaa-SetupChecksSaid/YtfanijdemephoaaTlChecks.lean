/- SetupChecks: for every configuration and every number of a field, what Check, Faults and Name answer is the document's own. No condition. -/
import Derived.Test.YtfanijdemephoaaStY
import Derived.Test.YtfanijdemephoaaRows
import Derived.Test.YtfanijdemephoaaWdefs
import Derived.OpenShut
import Derived.Lib.Hide
import Derived.WalkKit
import Derived.WalkSpells
import Derived.WalkLawsBesides
import Derived.Handy
import Derived.Laws.Bits64b
import Derived.IntWalk
import Derived.BigQuiet
import Derived.Deep.QuietTactic
import Derived.Deep.DeepCutAuto
import Derived.Deep.RegionWith
import Derived.OneCell
import Derived.Lib.Zigzag
import Derived.ProofKit
import Derived.ShutString
import Derived.ChangeOld
import Derived.Below
namespace Go.Proofs.Ytfanijdemephoaa.SetupChecks
open Go.Proofs.Ytfanijdemephoaa.W
open Go.ChangeShapes Go.WideShapes Go.ChangeAt Go.RowKit
open Go.ChangeMaps (open_string shut_string)
set_option linter.unusedVariables false
theorem own : ownKnob Try.prog.godebug = none := by kernel_rfl
theorem laidOut : laidOutB Try.prog = true := by kernel_rfl
open Go.Sort
set_option linter.unusedSimpArgs false
theorem same_self (l : List Int) : lSame eqI l l = true := (lSame_iff eqI_iff l l).2 rfl
theorem below_drewN9 {B : Nat} {w w' : World} (h : Below B w w') (m : Nat) : Below B w (w'.drewN m) := ⟨h.os, h.tape, h.output, h.size, h.block⟩
set_option maxRecDepth 100000 in
set_option maxHeartbeats 3200000 in
theorem pm_neq (p : Pm) (w : World) : (binOp .neq 30 (.agg #[.int .i64 p.step, .int .i64 p.watch, .int .i64 p.panic, .int .i64 p.maxrate, .int .i64 p.phi, .int .i64 p.maxdist, .int .i64 p.gate, .int .i64 p.minpoll, .int .i64 p.maxpoll, .int .i64 p.burst, .int .i64 p.minsane, .int .i64 p.minleft]) (.agg #[.int .i64 p.step, .int .i64 p.watch, .int .i64 p.panic, .int .i64 p.maxrate, .int .i64 p.phi, .int .i64 p.maxdist, .int .i64 p.gate, .int .i64 p.minpoll, .int .i64 p.maxpoll, .int .i64 p.burst, .int .i64 p.minsane, .int .i64 p.minleft])).run Try.prog w = .ok (.bool false) w := by
  simp [go_sem]
set_option maxRecDepth 100000 in
set_option maxHeartbeats 25600000 in
theorem walk (c : Cf) (field : Int) (w : World) (t : c.Typed) (wf : (Lit.int .i64 field).wf = true) :
    Calls Try.prog 3 #[c.val, .int .i64 field] w fun e w' => e = .returned (.bool true) ∧ Below w.heap.size w w' := by
  have bf := bounds_i64 wf
  have c1 := gcheck_any c t
  have c2 := rcheck_any c t
  have c3 := gsname_any field (by omega) (by omega)
  have c4 := rname_any field
  have c5 := shown10_any
  have c6 := gfaults_any c t
  have c7 := rfaults_any c t
  have c8 := fun va vb w' ia ib => ints_any (F := fun b => True) (G := fun b => True) (upTo c 12) (upTo c 12) (by have := upTo_length c 12; omega) (by have := upTo_length c 12; omega) va vb w' ia ib
  rw [same_self] at c8
  unfold Pm.val at c1 c2
  generalize nameV field = nv at *
  have hsplit : (upTo c 12 = []) ∨ (∃ n l, upTo c 12 = n :: l ∧ chkE c ≠ 0 ∧ chkN c = n) := by
    cases h : upTo c 12 with
    | nil => exact .inl rfl
    | cons n l =>
      refine .inr ⟨n, l, rfl, ?_, by unfold chkN; rw [h]; rfl⟩
      have hm : n ∈ upTo c 12 := by rw [h]; exact List.mem_cons_self ..
      have hE : chkE c = fieldE c n.toNat := by unfold chkE; rw [h]; rfl
      unfold upTo at hm
      obtain ⟨k, hk, rfl⟩ := List.mem_map.1 hm
      have := (List.mem_filter.1 hk).2
      rw [hE]
      simpa using this
  generalize chkP c = p at *
  have hpn := pm_neq p
  rcases hsplit with h0 | ⟨n, l, h0, he, hn⟩
  · have eN : chkN c = 0 := by unfold chkN; rw [h0]; rfl
    have eE : chkE c = 0 := by unfold chkE; rw [h0, if_pos rfl]
    rw [eN, eE] at c1 c2
    rw [h0] at c6 c7 c8
    clear eN eE h0 t wf bf
    unfold Cf.val at *
    go_enter Try.func3, Try.ntmps3
    go_wp2_with fail
    have hB0 : Below w.heap.size w (w.alloc (.cells #[.float .f64 c.step, .float .f64 c.watch, .float .f64 c.panic, .float .f64 c.maxrate, .float .f64 c.phi, .float .f64 c.maxdist, .float .f64 c.gate, .int .i64 c.minpoll, .int .i64 c.maxpoll, .int .i64 c.burst, .int .i64 c.minsane, .int .i64 c.minleft] 24)) := (Below.refl _ _).alloc (Nat.le_refl _) _
    have hx0 := heap_alloc_new w (.cells #[.float .f64 c.step, .float .f64 c.watch, .float .f64 c.panic, .float .f64 c.maxrate, .float .f64 c.phi, .float .f64 c.maxdist, .float .f64 c.gate, .int .i64 c.minpoll, .int .i64 c.maxpoll, .int .i64 c.burst, .int .i64 c.minsane, .int .i64 c.minleft] 24)
    generalize w.alloc (.cells #[.float .f64 c.step, .float .f64 c.watch, .float .f64 c.panic, .float .f64 c.maxrate, .float .f64 c.phi, .float .f64 c.maxdist, .float .f64 c.gate, .int .i64 c.minpoll, .int .i64 c.maxpoll, .int .i64 c.burst, .int .i64 c.minsane, .int .i64 c.minleft] 24) = w1 at *
    (with_reducible refine (c1 _).mono ?_)
    rintro e w2 ⟨rfl, hB2⟩
    have lx := (Array.getElem?_eq_some_iff.1 hx0).1
    have hx2 := (hB2.block _ lx).trans hx0
    have hb2 := hB0.trans (hB2.mono hB0.size)
    have hB3 : Below w.heap.size w (w2.alloc (.cells #[.int .i64 p.step, .int .i64 p.watch, .int .i64 p.panic, .int .i64 p.maxrate, .int .i64 p.phi, .int .i64 p.maxdist, .int .i64 p.gate, .int .i64 p.minpoll, .int .i64 p.maxpoll, .int .i64 p.burst, .int .i64 p.minsane, .int .i64 p.minleft] 26)) := hb2.alloc hb2.size _
    have lx2 := (Array.getElem?_eq_some_iff.1 hx2).1
    have hx3 := (Below.heap_alloc w2 (.cells #[.int .i64 p.step, .int .i64 p.watch, .int .i64 p.panic, .int .i64 p.maxrate, .int .i64 p.phi, .int .i64 p.maxdist, .int .i64 p.gate, .int .i64 p.minpoll, .int .i64 p.maxpoll, .int .i64 p.burst, .int .i64 p.minsane, .int .i64 p.minleft] 26) _ lx2).trans hx2
    have hp3 := heap_alloc_new w2 (.cells #[.int .i64 p.step, .int .i64 p.watch, .int .i64 p.panic, .int .i64 p.maxrate, .int .i64 p.phi, .int .i64 p.maxdist, .int .i64 p.gate, .int .i64 p.minpoll, .int .i64 p.maxpoll, .int .i64 p.burst, .int .i64 p.minsane, .int .i64 p.minleft] 26)
    obtain ⟨a0, a1, a2, a3, a4, a5, a6, a7, a8, a9, a10, a11⟩ := twelve_at hx2
    clear hB0 hB2 hx0 hx2 hb2 lx
    go_wp2_with fail
    generalize w2.alloc (.cells #[.int .i64 p.step, .int .i64 p.watch, .int .i64 p.panic, .int .i64 p.maxrate, .int .i64 p.phi, .int .i64 p.maxdist, .int .i64 p.gate, .int .i64 p.minpoll, .int .i64 p.maxpoll, .int .i64 p.burst, .int .i64 p.minsane, .int .i64 p.minleft] 26) = w3 at *
    (with_reducible refine (c2 _).mono ?_)
    rintro e w4 ⟨rfl, hB4⟩
    have lx3 := (Array.getElem?_eq_some_iff.1 hx3).1
    have lp3 := (Array.getElem?_eq_some_iff.1 hp3).1
    have hx4 := (hB4.block _ lx3).trans hx3
    have hp4 := (hB4.block _ lp3).trans hp3
    have hb4 := hB3.trans (hB4.mono hB3.size)
    have hB5 : Below w.heap.size w (w4.alloc (.cells #[.int .i64 p.step, .int .i64 p.watch, .int .i64 p.panic, .int .i64 p.maxrate, .int .i64 p.phi, .int .i64 p.maxdist, .int .i64 p.gate, .int .i64 p.minpoll, .int .i64 p.maxpoll, .int .i64 p.burst, .int .i64 p.minsane, .int .i64 p.minleft] 30)) := hb4.alloc hb4.size _
    have lx4 := (Array.getElem?_eq_some_iff.1 hx4).1
    have hx5 := (Below.heap_alloc w4 (.cells #[.int .i64 p.step, .int .i64 p.watch, .int .i64 p.panic, .int .i64 p.maxrate, .int .i64 p.phi, .int .i64 p.maxdist, .int .i64 p.gate, .int .i64 p.minpoll, .int .i64 p.maxpoll, .int .i64 p.burst, .int .i64 p.minsane, .int .i64 p.minleft] 30) _ lx4).trans hx4
    clear a0 a1 a2 a3 a4 a5 a6 a7 a8 a9 a10 a11
    obtain ⟨q0, q1, q2, q3, q4, q5, q6, q7, q8, q9, q10, q11⟩ := twelve_at ((Below.heap_alloc w4 (.cells #[.int .i64 p.step, .int .i64 p.watch, .int .i64 p.panic, .int .i64 p.maxrate, .int .i64 p.phi, .int .i64 p.maxdist, .int .i64 p.gate, .int .i64 p.minpoll, .int .i64 p.maxpoll, .int .i64 p.burst, .int .i64 p.minsane, .int .i64 p.minleft] 30) _ (Array.getElem?_eq_some_iff.1 hp4).1).trans hp4)
    obtain ⟨r0, r1, r2, r3, r4, r5, r6, r7, r8, r9, r10, r11⟩ := twelve_at (heap_alloc_new w4 (.cells #[.int .i64 p.step, .int .i64 p.watch, .int .i64 p.panic, .int .i64 p.maxrate, .int .i64 p.phi, .int .i64 p.maxdist, .int .i64 p.gate, .int .i64 p.minpoll, .int .i64 p.maxpoll, .int .i64 p.burst, .int .i64 p.minsane, .int .i64 p.minleft] 30))
    clear hB3 hB4 hx3 hp3 hx4 hp4 hb4 lx2 lx3 lp3
    go_wp2_with fail
    generalize w4.alloc (.cells #[.int .i64 p.step, .int .i64 p.watch, .int .i64 p.panic, .int .i64 p.maxrate, .int .i64 p.phi, .int .i64 p.maxdist, .int .i64 p.gate, .int .i64 p.minpoll, .int .i64 p.maxpoll, .int .i64 p.burst, .int .i64 p.minsane, .int .i64 p.minleft] 30) = w5 at *
    (with_reducible refine (c3 _).mono ?_)
    rintro e w6 ⟨rfl, hB6⟩
    go_wp2_with fail
    (with_reducible refine (c4 _).mono ?_)
    rintro e w7 ⟨rfl, hB7⟩
    go_wp2_with fail
    (with_reducible refine (c5 _).mono ?_)
    rintro e w8 ⟨rfl, hB8⟩
    have hb6 := hB5.trans (hB6.mono hB5.size)
    have hb7 := hb6.trans (hB7.mono hb6.size)
    have hb8 := hb7.trans (hB8.mono hb7.size)
    have lx5 := (Array.getElem?_eq_some_iff.1 hx5).1
    have hx6 := (hB6.block _ lx5).trans hx5
    have lx6 := (Array.getElem?_eq_some_iff.1 hx6).1
    have hx7 := (hB7.block _ lx6).trans hx6
    have lx7 := (Array.getElem?_eq_some_iff.1 hx7).1
    have hx8 := (hB8.block _ lx7).trans hx7
    have lx8 := (Array.getElem?_eq_some_iff.1 hx8).1
    clear q0 q1 q2 q3 q4 q5 q6 q7 q8 q9 q10 q11 r0 r1 r2 r3 r4 r5 r6 r7 r8 r9 r10 r11 hB5 hB6 hB7 hB8 hb6 hb7 hx5 hx6 hx7 lx4 lx5 lx6 lx7
    obtain ⟨a0, a1, a2, a3, a4, a5, a6, a7, a8, a9, a10, a11⟩ := twelve_at hx8
    go_wp2_with fail
    (with_reducible refine (c6 _).mono ?_)
    rintro e w9 ⟨v, rfl, hs9, hB9⟩
    have hx9 := (hB9.block _ lx8).trans hx8
    have lx9 := (Array.getElem?_eq_some_iff.1 hx9).1
    have hb9 := hb8.trans (hB9.mono hb8.size)
    obtain ⟨vx, vc, rfl⟩ := hs9.slice
    clear a0 a1 a2 a3 a4 a5 a6 a7 a8 a9 a10 a11
    obtain ⟨a0, a1, a2, a3, a4, a5, a6, a7, a8, a9, a10, a11⟩ := twelve_at hx9
    clear hx8 hb8 lx8 hB9
    have S9 := Lib.hid hs9
    clear hs9
    go_wp2_with fail
    (with_reducible refine (c7 _).mono ?_)
    rintro e w10 ⟨u, rfl, hs10, hB10⟩
    have hs9' := S9.out.kept (w' := w10) (fun b hb => hB10.block b hb.2)
    have hb10 := hb9.trans (hB10.mono hb9.size)
    have ci := c8 _ _ w10 (hs9'.mono fun _ _ => trivial) (hs10.mono fun _ _ => trivial)
    have S10 := Lib.hid (And.intro hs9' hb10)
    clear a0 a1 a2 a3 a4 a5 a6 a7 a8 a9 a10 a11 hs9' hs10 hb10 hb9 hB10 hx9 lx9
    obtain ⟨hs9', _⟩ := S10.out
    go_wp2_with fail
    simp only [List.length_nil] at ci
    (with_reducible refine ci.mono ?_)
    rintro e w11 ⟨rfl, m, rfl⟩
    go_wp2_with fail
    go_ret
    exact ⟨rfl, below_drewN9 S10.out.2 m⟩
  · rw [hn] at c1 c2
    rw [h0] at c6 c7 c8
    have heb : (chkE c == 0) = false := by rw [beq_eq_false_iff_ne]; exact he
    generalize chkE c = ev at *
    clear hn h0 t wf bf
    unfold Cf.val at *
    go_enter Try.func3, Try.ntmps3
    go_wp2_with fail
    have hB0 : Below w.heap.size w (w.alloc (.cells #[.float .f64 c.step, .float .f64 c.watch, .float .f64 c.panic, .float .f64 c.maxrate, .float .f64 c.phi, .float .f64 c.maxdist, .float .f64 c.gate, .int .i64 c.minpoll, .int .i64 c.maxpoll, .int .i64 c.burst, .int .i64 c.minsane, .int .i64 c.minleft] 24)) := (Below.refl _ _).alloc (Nat.le_refl _) _
    have hx0 := heap_alloc_new w (.cells #[.float .f64 c.step, .float .f64 c.watch, .float .f64 c.panic, .float .f64 c.maxrate, .float .f64 c.phi, .float .f64 c.maxdist, .float .f64 c.gate, .int .i64 c.minpoll, .int .i64 c.maxpoll, .int .i64 c.burst, .int .i64 c.minsane, .int .i64 c.minleft] 24)
    generalize w.alloc (.cells #[.float .f64 c.step, .float .f64 c.watch, .float .f64 c.panic, .float .f64 c.maxrate, .float .f64 c.phi, .float .f64 c.maxdist, .float .f64 c.gate, .int .i64 c.minpoll, .int .i64 c.maxpoll, .int .i64 c.burst, .int .i64 c.minsane, .int .i64 c.minleft] 24) = w1 at *
    (with_reducible refine (c1 _).mono ?_)
    rintro e w2 ⟨rfl, hB2⟩
    have lx := (Array.getElem?_eq_some_iff.1 hx0).1
    have hx2 := (hB2.block _ lx).trans hx0
    have hb2 := hB0.trans (hB2.mono hB0.size)
    have hB3 : Below w.heap.size w (w2.alloc (.cells #[.int .i64 p.step, .int .i64 p.watch, .int .i64 p.panic, .int .i64 p.maxrate, .int .i64 p.phi, .int .i64 p.maxdist, .int .i64 p.gate, .int .i64 p.minpoll, .int .i64 p.maxpoll, .int .i64 p.burst, .int .i64 p.minsane, .int .i64 p.minleft] 26)) := hb2.alloc hb2.size _
    have lx2 := (Array.getElem?_eq_some_iff.1 hx2).1
    have hx3 := (Below.heap_alloc w2 (.cells #[.int .i64 p.step, .int .i64 p.watch, .int .i64 p.panic, .int .i64 p.maxrate, .int .i64 p.phi, .int .i64 p.maxdist, .int .i64 p.gate, .int .i64 p.minpoll, .int .i64 p.maxpoll, .int .i64 p.burst, .int .i64 p.minsane, .int .i64 p.minleft] 26) _ lx2).trans hx2
    have hp3 := heap_alloc_new w2 (.cells #[.int .i64 p.step, .int .i64 p.watch, .int .i64 p.panic, .int .i64 p.maxrate, .int .i64 p.phi, .int .i64 p.maxdist, .int .i64 p.gate, .int .i64 p.minpoll, .int .i64 p.maxpoll, .int .i64 p.burst, .int .i64 p.minsane, .int .i64 p.minleft] 26)
    obtain ⟨a0, a1, a2, a3, a4, a5, a6, a7, a8, a9, a10, a11⟩ := twelve_at hx2
    clear hB0 hB2 hx0 hx2 hb2 lx
    go_wp2_with fail
    generalize w2.alloc (.cells #[.int .i64 p.step, .int .i64 p.watch, .int .i64 p.panic, .int .i64 p.maxrate, .int .i64 p.phi, .int .i64 p.maxdist, .int .i64 p.gate, .int .i64 p.minpoll, .int .i64 p.maxpoll, .int .i64 p.burst, .int .i64 p.minsane, .int .i64 p.minleft] 26) = w3 at *
    (with_reducible refine (c2 _).mono ?_)
    rintro e w4 ⟨rfl, hB4⟩
    have lx3 := (Array.getElem?_eq_some_iff.1 hx3).1
    have lp3 := (Array.getElem?_eq_some_iff.1 hp3).1
    have hx4 := (hB4.block _ lx3).trans hx3
    have hp4 := (hB4.block _ lp3).trans hp3
    have hb4 := hB3.trans (hB4.mono hB3.size)
    have hB5 : Below w.heap.size w (w4.alloc (.cells #[.int .i64 p.step, .int .i64 p.watch, .int .i64 p.panic, .int .i64 p.maxrate, .int .i64 p.phi, .int .i64 p.maxdist, .int .i64 p.gate, .int .i64 p.minpoll, .int .i64 p.maxpoll, .int .i64 p.burst, .int .i64 p.minsane, .int .i64 p.minleft] 30)) := hb4.alloc hb4.size _
    have lx4 := (Array.getElem?_eq_some_iff.1 hx4).1
    have hx5 := (Below.heap_alloc w4 (.cells #[.int .i64 p.step, .int .i64 p.watch, .int .i64 p.panic, .int .i64 p.maxrate, .int .i64 p.phi, .int .i64 p.maxdist, .int .i64 p.gate, .int .i64 p.minpoll, .int .i64 p.maxpoll, .int .i64 p.burst, .int .i64 p.minsane, .int .i64 p.minleft] 30) _ lx4).trans hx4
    clear a0 a1 a2 a3 a4 a5 a6 a7 a8 a9 a10 a11
    obtain ⟨q0, q1, q2, q3, q4, q5, q6, q7, q8, q9, q10, q11⟩ := twelve_at ((Below.heap_alloc w4 (.cells #[.int .i64 p.step, .int .i64 p.watch, .int .i64 p.panic, .int .i64 p.maxrate, .int .i64 p.phi, .int .i64 p.maxdist, .int .i64 p.gate, .int .i64 p.minpoll, .int .i64 p.maxpoll, .int .i64 p.burst, .int .i64 p.minsane, .int .i64 p.minleft] 30) _ (Array.getElem?_eq_some_iff.1 hp4).1).trans hp4)
    obtain ⟨r0, r1, r2, r3, r4, r5, r6, r7, r8, r9, r10, r11⟩ := twelve_at (heap_alloc_new w4 (.cells #[.int .i64 p.step, .int .i64 p.watch, .int .i64 p.panic, .int .i64 p.maxrate, .int .i64 p.phi, .int .i64 p.maxdist, .int .i64 p.gate, .int .i64 p.minpoll, .int .i64 p.maxpoll, .int .i64 p.burst, .int .i64 p.minsane, .int .i64 p.minleft] 30))
    clear hB3 hB4 hx3 hp3 hx4 hp4 hb4 lx2 lx3 lp3
    go_wp2_with fail
    generalize w4.alloc (.cells #[.int .i64 p.step, .int .i64 p.watch, .int .i64 p.panic, .int .i64 p.maxrate, .int .i64 p.phi, .int .i64 p.maxdist, .int .i64 p.gate, .int .i64 p.minpoll, .int .i64 p.maxpoll, .int .i64 p.burst, .int .i64 p.minsane, .int .i64 p.minleft] 30) = w5 at *
    (with_reducible refine (c3 _).mono ?_)
    rintro e w6 ⟨rfl, hB6⟩
    go_wp2_with fail
    (with_reducible refine (c4 _).mono ?_)
    rintro e w7 ⟨rfl, hB7⟩
    go_wp2_with fail
    (with_reducible refine (c5 _).mono ?_)
    rintro e w8 ⟨rfl, hB8⟩
    have hb6 := hB5.trans (hB6.mono hB5.size)
    have hb7 := hb6.trans (hB7.mono hb6.size)
    have hb8 := hb7.trans (hB8.mono hb7.size)
    have lx5 := (Array.getElem?_eq_some_iff.1 hx5).1
    have hx6 := (hB6.block _ lx5).trans hx5
    have lx6 := (Array.getElem?_eq_some_iff.1 hx6).1
    have hx7 := (hB7.block _ lx6).trans hx6
    have lx7 := (Array.getElem?_eq_some_iff.1 hx7).1
    have hx8 := (hB8.block _ lx7).trans hx7
    have lx8 := (Array.getElem?_eq_some_iff.1 hx8).1
    clear q0 q1 q2 q3 q4 q5 q6 q7 q8 q9 q10 q11 r0 r1 r2 r3 r4 r5 r6 r7 r8 r9 r10 r11 hB5 hB6 hB7 hB8 hb6 hb7 hx5 hx6 hx7 lx4 lx5 lx6 lx7
    obtain ⟨a0, a1, a2, a3, a4, a5, a6, a7, a8, a9, a10, a11⟩ := twelve_at hx8
    go_wp2_with fail
    (with_reducible refine (c6 _).mono ?_)
    rintro e w9 ⟨v, rfl, hs9, hB9⟩
    have hx9 := (hB9.block _ lx8).trans hx8
    have lx9 := (Array.getElem?_eq_some_iff.1 hx9).1
    have hb9 := hb8.trans (hB9.mono hb8.size)
    obtain ⟨vx, vc, rfl⟩ := hs9.slice
    clear a0 a1 a2 a3 a4 a5 a6 a7 a8 a9 a10 a11
    obtain ⟨a0, a1, a2, a3, a4, a5, a6, a7, a8, a9, a10, a11⟩ := twelve_at hx9
    clear hx8 hb8 lx8 hB9
    have S9 := Lib.hid hs9
    clear hs9
    go_wp2_with fail
    (with_reducible refine (c7 _).mono ?_)
    rintro e w10 ⟨u, rfl, hs10, hB10⟩
    have hs9' := S9.out.kept (w' := w10) (fun b hb => hB10.block b hb.2)
    have hb10 := hb9.trans (hB10.mono hb9.size)
    have ci := c8 _ _ w10 (hs9'.mono fun _ _ => trivial) (hs10.mono fun _ _ => trivial)
    have S10 := Lib.hid (And.intro hs9' hb10)
    clear a0 a1 a2 a3 a4 a5 a6 a7 a8 a9 a10 a11 hs9' hs10 hb10 hb9 hB10 hx9 lx9
    obtain ⟨hs9', _⟩ := S10.out
    rcases hs9' with ⟨_, _, _, _, hnil⟩ | ⟨b, off, cap, hv, hb, hcs⟩
    · cases hnil
    · obtain ⟨rfl, _, rfl⟩ := Value.slice.inj hv
      have l0 := hcs 0 n rfl 0 _ rfl
      simp only [Nat.zero_mul, Nat.add_zero] at l0
      clear hcs hv
      have hlen : (0 : Int) < (l.length : Int) + 1 := by omega
      have hlen0 : ((l.length : Int) + 1 == 0) = false := by rw [beq_eq_false_iff_ne]; omega
      simp only [List.length_cons] at ci
      go_wp2_with fail
      (with_reducible refine ci.mono ?_)
      rintro e w11 ⟨rfl, m, rfl⟩
      go_wp2_with fail
      go_ret
      exact ⟨rfl, below_drewN9 S10.out.2 m⟩
set_option maxRecDepth 100000 in
theorem lifted (os : Os) (started : os.Started) (H : Type) (enc : TypeId × Value → H) :
    ReturnsInHanded {} Try.checked os 3 .any (Rows.setupChecksSpec.pre6 enc Try.prog Try.f3 Rows.setupChecksRow.domain false) (Rows.setupChecksSpec.post enc Try.prog Try.f3 false true false false) := by
  refine returnsInHanded_of_change (C := Try.checked) own started (by kernel_rfl) Try.func3
    (ChangeSpec.witness6 (enc := enc) (C := Try.checked) false ⟨#[], #[.agg #[.float .f64 0, .float .f64 0, .float .f64 0, .float .f64 0, .float .f64 0, .float .f64 0, .float .f64 0, .int .i64 0, .int .i64 0, .int .i64 0, .int .i64 0, .int .i64 0], .int .i64 0], []⟩ 8 (by kernel_rfl) (by kernel_rfl) (by kernel_rfl) (by kernel_rfl)) ?_
  intro W base args ds gs before hval0 hW hcnd _
  have hval : ∀ (j : Nat) t v, Try.f3.params[j]? = some t → args[j]? = some v → Value.okWide Try.prog W .any base t v := hval0
  have hW' := hW
  obtain ⟨p, q, hA0, hV, rfl, hfz, hnd⟩ := hW
  have hA : DataW.TrodAll enc Try.prog W 0 (fun _ => true) true Try.f3.params.toList args.toList ds p := hA0
  rw [Try.params3] at hA hval
  obtain ⟨v0, vs0, d0, ds0, p0, q0, hargs, rfl, rfl, h0, r0⟩ := trodAll_cons hA
  obtain ⟨v1, vs1, d1, ds1, p1, q1, rfl, rfl, rfl, h1, r1⟩ := trodAll_cons r0
  obtain ⟨rfl, rfl, rfl⟩ := trodAll_nil r1
  obtain rfl : args = #[v0, v1] := by cases args; simp_all
  obtain ⟨rfl, rfl⟩ := trodVars_none hV
  have k0 := h0
  have lt0 : ∀ x ∈ p0, x.block < W.heap.size := by obtain ⟨m, hm⟩ := k0; exact DataW.trod_lt m _ _ _ hm
  obtain ⟨a0, rfl, w0⟩ := open_cf (hval 0 24 v0 rfl rfl) h0
  obtain ⟨a1, rfl, rfl, rfl, w1⟩ := open_int Try.underlying3 (hval 1 3 v1 rfl rfl) h1
  clear hA0 hval0
  refine (walk a0 a1 W w0 w1).mono fun e W' ⟨he, bel⟩ => ?_
  subst he
  exact ⟨_, rfl, _, _, _, [], _, [], hW', trodAll_mk1 (shut_bool Try.underlying4 _), (trodAll_cons_mk (Below.trod laidOut (by kernel_rfl) (of_decide_eq_true (by kernel_rfl)) k0 bel lt0) (trodAll_cons_mk (shut_int Try.underlying3 w1) trodAll_mk0)), rfl, bel.frame _, fun h => by cases h⟩

theorem over : Rows.setupChecksRow.holds Try.pinned (OpenSpec.ofChange Rows.setupChecksSpec) :=
  OpenClaim.holds_of_wide 3 Try.f3 rfl rfl rfl rfl rfl rfl rfl ⟨rfl, rfl, rfl, rfl, rfl⟩ rfl rfl rfl rfl rfl (by kernel_rfl) Try.func3 (by kernel_rfl)
    (of_decide_eq_true (by kernel_rfl)) (by unfold Func.isWrapper; first | (rw [if_pos (by decide +kernel)]; kernel_rfl) | (rw [if_neg (by decide +kernel)]; exact ⟨rfl, rfl⟩))
    (fun os started H enc _ => lifted os started H enc)

theorem proved : Rows.SetupChecksSaid := over
end Go.Proofs.Ytfanijdemephoaa.SetupChecks
