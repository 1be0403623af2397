/- ChecksTwice: for every settings, asking and two packets: of a packet that comes twice the second one is none. No condition. -/
import Derived.Test.YtjelbpibofngiaaCkY
import Derived.WalkKit
import Derived.WalkSpells
import Derived.WalkLawsBesides
import Derived.Lib.Hide
import Derived.Handy
import Derived.ProofKit
import Derived.OpenShut
import Derived.ShutString
import Derived.ChangeOld
import Derived.Below
namespace Go.Proofs.Ytjelbpibofngiaa.ChecksTwice
open Go.Proofs.Ytjelbpibofngiaa.W
open Go.ChangeShapes Go.WideShapes Go.ChangeAt Go.RowKit
open Go.ChangeMaps (open_string shut_string)
set_option linter.unusedVariables false
theorem own : ownKnob Try.prog.godebug = none := by kernel_rfl
theorem laidOut : laidOutB Try.prog = true := by kernel_rfl
open Go.Sort
set_option linter.unusedSimpArgs false
set_option maxRecDepth 100000 in
set_option maxHeartbeats 25600000 in
theorem walk (p : Pm) (a : Aq) (h k : Hd) (w : World) (tp : p.Typed) (ta : a.Typed) (th : h.Typed) (tk : k.Typed) :
    Calls Try.prog 4 #[p.val, a.val, h.val, k.val] w fun e w' => e = .returned (.bool true) ∧ Below w.heap.size w w' := by
  have c1 := jtake_any p tp a ta h th
  have c2 := jtake_any p tp _ (take_typed (p := p) (h := h) ta th) h th
  have tk2 : Hd.Typed ⟨k.leap, k.ver, k.mode, k.str, k.poll, k.prec, k.rdel, k.rdis, k.ref, k.reft, h.org, k.rcv, k.tx⟩ := ⟨tk.leap, tk.ver, tk.mode, tk.str, tk.poll, tk.prec, tk.rdel, tk.rdis, tk.ref, tk.reft, th.org, tk.rcv, tk.tx⟩
  have c3 := jtake_any p tp _ (take_typed (p := p) (h := h) ta th) _ tk2
  have c4 := shown12_any
  obtain ⟨T1, T2, T3⟩ := judge_twice p a h
  have T4 : judgeI p a h = 0 → (judgeI p (takeA p a h) ⟨k.leap, k.ver, k.mode, k.str, k.poll, k.prec, k.rdel, k.rdis, k.ref, k.reft, h.org, k.rcv, k.tx⟩ ≠ 0 ∧ takeA p (takeA p a h) ⟨k.leap, k.ver, k.mode, k.str, k.poll, k.prec, k.rdel, k.rdis, k.ref, k.reft, h.org, k.rcv, k.tx⟩ = takeA p a h) := fun e0 => by
    rcases judge_cases p a h with ⟨g, _⟩ | ⟨g, e, _⟩
    · omega
    · have := judge_forged (p := p) (a := takeA p a h) (h := ⟨k.leap, k.ver, k.mode, k.str, k.poll, k.prec, k.rdel, k.rdis, k.ref, k.reft, h.org, k.rcv, k.tx⟩) (by rw [e]; intro f; exact f.1 rfl)
      exact ⟨by omega, this.2⟩
  rw [T1] at c2
  generalize judgeI p a h = j at *
  generalize takeA p a h = b at *
  generalize judgeI p b h = f at *
  generalize judgeI p b ⟨k.leap, k.ver, k.mode, k.str, k.poll, k.prec, k.rdel, k.rdis, k.ref, k.reft, h.org, k.rcv, k.tx⟩ = g at *
  generalize takeA p b ⟨k.leap, k.ver, k.mode, k.str, k.poll, k.prec, k.rdel, k.rdis, k.ref, k.reft, h.org, k.rcv, k.tx⟩ = d at *
  clear ta th tk tk2 tp T1
  unfold Pm.val Aq.val Hd.val at *
  dsimp only at c3
  have hA1 := (Below.refl w.heap.size w).alloc (Nat.le_refl _) (.cells #[.int .i64 p.step, .int .i64 p.watch, .int .i64 p.panic, .int .i64 p.maxrate, .int .i64 p.phi, .int .i64 p.maxdist, .int .i64 p.gate, .int .i64 p.minpoll, .int .i64 p.maxpoll, .int .i64 p.burst, .int .i64 p.minsane, .int .i64 p.minleft] 23)
  have hA2 := hA1.alloc hA1.size (.cells #[.int .i64 a.ver, .int .u64 a.pend, .int .u64 a.last] 26)
  have hA3 := hA2.alloc hA2.size (.cells #[.int .i64 h.leap, .int .i64 h.ver, .int .i64 h.mode, .int .i64 h.str, .int .i64 h.poll, .int .i64 h.prec, .int .u32 h.rdel, .int .u32 h.rdis, .int .u32 h.ref, .int .u64 h.reft, .int .u64 h.org, .int .u64 h.rcv, .int .u64 h.tx] 29)
  have hA4 := hA3.alloc hA3.size (.cells #[.int .i64 k.leap, .int .i64 k.ver, .int .i64 k.mode, .int .i64 k.str, .int .i64 k.poll, .int .i64 k.prec, .int .u32 k.rdel, .int .u32 k.rdis, .int .u32 k.ref, .int .u64 k.reft, .int .u64 k.org, .int .u64 k.rcv, .int .u64 k.tx] 29)
  have hp1 := laid (.cells #[.int .i64 k.leap, .int .i64 k.ver, .int .i64 k.mode, .int .i64 k.str, .int .i64 k.poll, .int .i64 k.prec, .int .u32 k.rdel, .int .u32 k.rdis, .int .u32 k.ref, .int .u64 k.reft, .int .u64 k.org, .int .u64 k.rcv, .int .u64 k.tx] 29) (laid (.cells #[.int .i64 h.leap, .int .i64 h.ver, .int .i64 h.mode, .int .i64 h.str, .int .i64 h.poll, .int .i64 h.prec, .int .u32 h.rdel, .int .u32 h.rdis, .int .u32 h.ref, .int .u64 h.reft, .int .u64 h.org, .int .u64 h.rcv, .int .u64 h.tx] 29) (laid (.cells #[.int .i64 a.ver, .int .u64 a.pend, .int .u64 a.last] 26) (heap_alloc_new w (.cells #[.int .i64 p.step, .int .i64 p.watch, .int .i64 p.panic, .int .i64 p.maxrate, .int .i64 p.phi, .int .i64 p.maxdist, .int .i64 p.gate, .int .i64 p.minpoll, .int .i64 p.maxpoll, .int .i64 p.burst, .int .i64 p.minsane, .int .i64 p.minleft] 23))))
  have ha1 := laid (.cells #[.int .i64 k.leap, .int .i64 k.ver, .int .i64 k.mode, .int .i64 k.str, .int .i64 k.poll, .int .i64 k.prec, .int .u32 k.rdel, .int .u32 k.rdis, .int .u32 k.ref, .int .u64 k.reft, .int .u64 k.org, .int .u64 k.rcv, .int .u64 k.tx] 29) (laid (.cells #[.int .i64 h.leap, .int .i64 h.ver, .int .i64 h.mode, .int .i64 h.str, .int .i64 h.poll, .int .i64 h.prec, .int .u32 h.rdel, .int .u32 h.rdis, .int .u32 h.ref, .int .u64 h.reft, .int .u64 h.org, .int .u64 h.rcv, .int .u64 h.tx] 29) (heap_alloc_new (w.alloc (.cells #[.int .i64 p.step, .int .i64 p.watch, .int .i64 p.panic, .int .i64 p.maxrate, .int .i64 p.phi, .int .i64 p.maxdist, .int .i64 p.gate, .int .i64 p.minpoll, .int .i64 p.maxpoll, .int .i64 p.burst, .int .i64 p.minsane, .int .i64 p.minleft] 23)) (.cells #[.int .i64 a.ver, .int .u64 a.pend, .int .u64 a.last] 26)))
  have hh1 := laid (.cells #[.int .i64 k.leap, .int .i64 k.ver, .int .i64 k.mode, .int .i64 k.str, .int .i64 k.poll, .int .i64 k.prec, .int .u32 k.rdel, .int .u32 k.rdis, .int .u32 k.ref, .int .u64 k.reft, .int .u64 k.org, .int .u64 k.rcv, .int .u64 k.tx] 29) (heap_alloc_new ((w.alloc (.cells #[.int .i64 p.step, .int .i64 p.watch, .int .i64 p.panic, .int .i64 p.maxrate, .int .i64 p.phi, .int .i64 p.maxdist, .int .i64 p.gate, .int .i64 p.minpoll, .int .i64 p.maxpoll, .int .i64 p.burst, .int .i64 p.minsane, .int .i64 p.minleft] 23)).alloc (.cells #[.int .i64 a.ver, .int .u64 a.pend, .int .u64 a.last] 26)) (.cells #[.int .i64 h.leap, .int .i64 h.ver, .int .i64 h.mode, .int .i64 h.str, .int .i64 h.poll, .int .i64 h.prec, .int .u32 h.rdel, .int .u32 h.rdis, .int .u32 h.ref, .int .u64 h.reft, .int .u64 h.org, .int .u64 h.rcv, .int .u64 h.tx] 29))
  have hk1 := heap_alloc_new (((w.alloc (.cells #[.int .i64 p.step, .int .i64 p.watch, .int .i64 p.panic, .int .i64 p.maxrate, .int .i64 p.phi, .int .i64 p.maxdist, .int .i64 p.gate, .int .i64 p.minpoll, .int .i64 p.maxpoll, .int .i64 p.burst, .int .i64 p.minsane, .int .i64 p.minleft] 23)).alloc (.cells #[.int .i64 a.ver, .int .u64 a.pend, .int .u64 a.last] 26)).alloc (.cells #[.int .i64 h.leap, .int .i64 h.ver, .int .i64 h.mode, .int .i64 h.str, .int .i64 h.poll, .int .i64 h.prec, .int .u32 h.rdel, .int .u32 h.rdis, .int .u32 h.ref, .int .u64 h.reft, .int .u64 h.org, .int .u64 h.rcv, .int .u64 h.tx] 29)) (.cells #[.int .i64 k.leap, .int .i64 k.ver, .int .i64 k.mode, .int .i64 k.str, .int .i64 k.poll, .int .i64 k.prec, .int .u32 k.rdel, .int .u32 k.rdis, .int .u32 k.ref, .int .u64 k.reft, .int .u64 k.org, .int .u64 k.rcv, .int .u64 k.tx] 29)
  rw [World.size_alloc] at ha1
  rw [World.size_alloc, World.size_alloc] at hh1
  rw [World.size_alloc, World.size_alloc, World.size_alloc] at hk1
  go_enter Try.func4, Try.ntmps4
  go_upto_region 1 with fail
  generalize (((w.alloc (.cells #[.int .i64 p.step, .int .i64 p.watch, .int .i64 p.panic, .int .i64 p.maxrate, .int .i64 p.phi, .int .i64 p.maxdist, .int .i64 p.gate, .int .i64 p.minpoll, .int .i64 p.maxpoll, .int .i64 p.burst, .int .i64 p.minsane, .int .i64 p.minleft] 23)).alloc (.cells #[.int .i64 a.ver, .int .u64 a.pend, .int .u64 a.last] 26)).alloc (.cells #[.int .i64 h.leap, .int .i64 h.ver, .int .i64 h.mode, .int .i64 h.str, .int .i64 h.poll, .int .i64 h.prec, .int .u32 h.rdel, .int .u32 h.rdis, .int .u32 h.ref, .int .u64 h.reft, .int .u64 h.org, .int .u64 h.rcv, .int .u64 h.tx] 29)).alloc (.cells #[.int .i64 k.leap, .int .i64 k.ver, .int .i64 k.mode, .int .i64 k.str, .int .i64 k.poll, .int .i64 k.prec, .int .u32 k.rdel, .int .u32 k.rdis, .int .u32 k.ref, .int .u64 k.reft, .int .u64 k.org, .int .u64 k.rcv, .int .u64 k.tx] 29) = u0 at *
  obtain ⟨q0, q1, q2, q3, q4, q5, q6, q7, q8, q9, q10, q11⟩ := twelve_at hp1
  obtain ⟨a0, a1, a2⟩ := three_in ha1
  obtain ⟨h0, h1, h2, h3, h4, h5, h6, h7, h8, h9, h10, h11, h12⟩ := thirteen_in hh1
  clear hA1 hA2 hA3
  go_wp2_with fail
  (with_reducible refine (c1 _).mono ?_)
  rintro e u1 ⟨rfl, hB1⟩
  have hq1 := hA4.trans (hB1.mono hA4.size)
  have hq2 := hq1.alloc hq1.size (.cells #[.int .i64 b.ver, .int .u64 b.pend, .int .u64 b.last] 26)
  have hp2 := laid (.cells #[.int .i64 b.ver, .int .u64 b.pend, .int .u64 b.last] 26) (kept hp1 hB1)
  have hh2 := laid (.cells #[.int .i64 b.ver, .int .u64 b.pend, .int .u64 b.last] 26) (kept hh1 hB1)
  have hk2 := laid (.cells #[.int .i64 b.ver, .int .u64 b.pend, .int .u64 b.last] 26) (kept hk1 hB1)
  have hb2 := heap_alloc_new u1 (.cells #[.int .i64 b.ver, .int .u64 b.pend, .int .u64 b.last] 26)
  clear q0 q1 q2 q3 q4 q5 q6 q7 q8 q9 q10 q11 a0 a1 a2 h0 h1 h2 h3 h4 h5 h6 h7 h8 h9 h10 h11 h12 hp1 ha1 hh1 hA4 hq1 c1
  go_upto_region 2 with fail
  generalize u1.alloc (.cells #[.int .i64 b.ver, .int .u64 b.pend, .int .u64 b.last] 26) = u2 at *
  have hbb : w.heap.size + 4 ≤ u1.heap.size := by
    have := (Array.getElem?_eq_some_iff.1 hk1).1
    have := hB1.size
    omega
  clear hk1 hB1
  generalize u1.heap.size = bb at *
  obtain ⟨q0, q1, q2, q3, q4, q5, q6, q7, q8, q9, q10, q11⟩ := twelve_at hp2
  obtain ⟨b0, b1, b2⟩ := three_in hb2
  obtain ⟨h0, h1, h2, h3, h4, h5, h6, h7, h8, h9, h10, h11, h12⟩ := thirteen_in hh2
  go_wp2_with fail
  (with_reducible refine (c2 _).mono ?_)
  rintro e u3 ⟨rfl, hB3⟩
  have hq3 := hq2.trans (hB3.mono hq2.size)
  have hq4 := hq3.alloc hq3.size (.cells #[.int .i64 b.ver, .int .u64 b.pend, .int .u64 b.last] 26)
  have hp4 := laid (.cells #[.int .i64 b.ver, .int .u64 b.pend, .int .u64 b.last] 26) (kept hp2 hB3)
  have hh4 := laid (.cells #[.int .i64 b.ver, .int .u64 b.pend, .int .u64 b.last] 26) (kept hh2 hB3)
  have hk4 := laid (.cells #[.int .i64 b.ver, .int .u64 b.pend, .int .u64 b.last] 26) (kept hk2 hB3)
  have hb4 := laid (.cells #[.int .i64 b.ver, .int .u64 b.pend, .int .u64 b.last] 26) (kept hb2 hB3)
  have hc4 := heap_alloc_new u3 (.cells #[.int .i64 b.ver, .int .u64 b.pend, .int .u64 b.last] 26)
  clear q0 q1 q2 q3 q4 q5 q6 q7 q8 q9 q10 q11 b0 b1 b2 h0 h1 h2 h3 h4 h5 h6 h7 h8 h9 h10 h11 h12 hp2 hh2 hk2 hb2 hq2 hB3 hq3 c2
  go_upto_region 3 with fail
  generalize u3.alloc (.cells #[.int .i64 b.ver, .int .u64 b.pend, .int .u64 b.last] 26) = u4 at *
  generalize u3.heap.size = bc at *
  obtain ⟨b0, b1, b2⟩ := three_in hb4
  obtain ⟨d0, d1, d2⟩ := three_in hc4
  go_wp2_with fail
  (with_reducible refine (c4 _).mono ?_)
  rintro e u5 ⟨rfl, hB5⟩
  have hq5 := hq4.trans (hB5.mono hq4.size)
  have hp5 := kept hp4 hB5
  have hh5 := kept hh4 hB5
  have hk5 := kept hk4 hB5
  have hb5 := kept hb4 hB5
  clear b0 b1 b2 d0 d1 d2 hp4 hh4 hk4 hb4 hc4 hq4 hB5 c4
  by_cases e0 : j = 0
  · have f1 := T3 e0
    obtain ⟨g1, g2⟩ := T4 e0
    have gb : (g != 0) = true := by simpa using g1
    subst e0 f1 g2
    clear T2 T3 T4
    obtain ⟨h0, h1, h2, h3, h4, h5, h6, h7, h8, h9, h10, h11, h12⟩ := thirteen_in hh5
    obtain ⟨k0, k1, k2, k3, k4, k5, k6, k7, k8, k9, k10, k11, k12⟩ := thirteen_in hk5
    have fk : ∀ i, u5.frozen? ⟨w.heap.size + 1 + 1 + 1, i, none⟩ = false := fun i => by simp [World.frozen?, hk5]
    have hk6 : (u5.setCell ⟨w.heap.size + 1 + 1 + 1, 10, none⟩ (.int .u64 h.org)).heap[w.heap.size + 1 + 1 + 1]? = some (.cells #[.int .i64 k.leap, .int .i64 k.ver, .int .i64 k.mode, .int .i64 k.str, .int .i64 k.poll, .int .i64 k.prec, .int .u32 k.rdel, .int .u32 k.rdis, .int .u32 k.ref, .int .u64 k.reft, .int .u64 h.org, .int .u64 k.rcv, .int .u64 k.tx] 29 (0, 0)) := block_set 10 (.int .u64 h.org) hk5
    have hp6 : (u5.setCell ⟨w.heap.size + 1 + 1 + 1, 10, none⟩ (.int .u64 h.org)).heap[w.heap.size]? = _ := (block_far (w := u5) (b := w.heap.size + 1 + 1 + 1) (k := w.heap.size) 10 (.int .u64 h.org) (by omega)).trans hp5
    have hb6 : (u5.setCell ⟨w.heap.size + 1 + 1 + 1, 10, none⟩ (.int .u64 h.org)).heap[bb]? = _ := (block_far (w := u5) (b := w.heap.size + 1 + 1 + 1) (k := bb) 10 (.int .u64 h.org) (by omega)).trans hb5
    have hq6 := hq5.setCell (p := ⟨w.heap.size + 1 + 1 + 1, 10, none⟩) (show w.heap.size ≤ w.heap.size + 1 + 1 + 1 by omega) (.int .u64 h.org)
    go_upto_region 8 with fail
    generalize u5.setCell ⟨w.heap.size + 1 + 1 + 1, 10, none⟩ (.int .u64 h.org) = u6 at *
    clear fk hp5 hh5 hk5 hb5 hq5 h0 h1 h2 h3 h4 h5 h6 h7 h8 h9 h10 h11 h12 k0 k1 k2 k3 k4 k5 k6 k7 k8 k9 k10 k11 k12
    obtain ⟨q0, q1, q2, q3, q4, q5, q6, q7, q8, q9, q10, q11⟩ := twelve_at hp6
    obtain ⟨k0, k1, k2, k3, k4, k5, k6, k7, k8, k9, k10, k11, k12⟩ := thirteen_in hk6
    obtain ⟨b0, b1, b2⟩ := three_in hb6
    go_wp2_with fail
    (with_reducible refine (c3 _).mono ?_)
    rintro e u7 ⟨rfl, hB7⟩
    have hq7 := hq6.trans (hB7.mono hq6.size)
    have hq8 := hq7.alloc hq7.size (.cells #[.int .i64 d.ver, .int .u64 d.pend, .int .u64 d.last] 26)
    have hb8 := laid (.cells #[.int .i64 d.ver, .int .u64 d.pend, .int .u64 d.last] 26) (kept hb6 hB7)
    have hc8 := heap_alloc_new u7 (.cells #[.int .i64 d.ver, .int .u64 d.pend, .int .u64 d.last] 26)
    clear q0 q1 q2 q3 q4 q5 q6 q7 q8 q9 q10 q11 b0 b1 b2 k0 k1 k2 k3 k4 k5 k6 k7 k8 k9 k10 k11 k12 hp6 hk6 hb6 hq6 hB7 hq7 c3
    go_upto_region 9 with fail
    generalize u7.alloc (.cells #[.int .i64 d.ver, .int .u64 d.pend, .int .u64 d.last] 26) = u8 at *
    obtain ⟨b0, b1, b2⟩ := three_in hb8
    obtain ⟨d0, d1, d2⟩ := three_in hc8
    go_wp2_with fail
    all_goals go_ret
    all_goals exact ⟨rfl, hq8⟩
  · go_wp2_with fail
    all_goals go_ret
    all_goals exact ⟨rfl, hq5⟩
set_option maxRecDepth 100000 in
theorem lifted (os : Os) (started : os.Started) (H : Type) (enc : TypeId × Value → H) :
    ReturnsInHanded {} Try.checked os 4 .any (Rows.checksTwiceSpec.pre6 enc Try.prog Try.f4 Rows.checksTwiceRow.domain false) (Rows.checksTwiceSpec.post enc Try.prog Try.f4 false true false false) := by
  refine returnsInHanded_of_change (C := Try.checked) own started (by kernel_rfl) Try.func4
    (ChangeSpec.witness6 (enc := enc) (C := Try.checked) false ⟨#[], #[.agg #[.int .i64 0, .int .i64 0, .int .i64 0, .int .i64 0, .int .i64 0, .int .i64 0, .int .i64 0, .int .i64 0, .int .i64 0, .int .i64 0, .int .i64 0, .int .i64 0], .agg #[.int .i64 0, .int .u64 0, .int .u64 0], .agg #[.int .i64 0, .int .i64 0, .int .i64 0, .int .i64 0, .int .i64 0, .int .i64 0, .int .u32 0, .int .u32 0, .int .u32 0, .int .u64 0, .int .u64 0, .int .u64 0, .int .u64 0], .agg #[.int .i64 0, .int .i64 0, .int .i64 0, .int .i64 0, .int .i64 0, .int .i64 0, .int .u32 0, .int .u32 0, .int .u32 0, .int .u64 0, .int .u64 0, .int .u64 0, .int .u64 0]], []⟩ 8 (by kernel_rfl) (by kernel_rfl) (by kernel_rfl) (by kernel_rfl)) ?_
  intro W base args ds gs before hval0 hW hcnd _
  have hval : ∀ (j : Nat) t v, Try.f4.params[j]? = some t → args[j]? = some v → Value.okWide Try.prog W .any base t v := hval0
  have hW' := hW
  obtain ⟨p, q, hA0, hV, rfl, hfz, hnd⟩ := hW
  have hA : DataW.TrodAll enc Try.prog W 0 (fun _ => true) true Try.f4.params.toList args.toList ds p := hA0
  rw [Try.params4] at hA hval
  obtain ⟨v0, vs0, d0, ds0, p0, q0, hargs, rfl, rfl, h0, r0⟩ := trodAll_cons hA
  obtain ⟨v1, vs1, d1, ds1, p1, q1, rfl, rfl, rfl, h1, r1⟩ := trodAll_cons r0
  obtain ⟨v2, vs2, d2, ds2, p2, q2, rfl, rfl, rfl, h2, r2⟩ := trodAll_cons r1
  obtain ⟨v3, vs3, d3, ds3, p3, q3, rfl, rfl, rfl, h3, r3⟩ := trodAll_cons r2
  obtain ⟨rfl, rfl, rfl⟩ := trodAll_nil r3
  obtain rfl : args = #[v0, v1, v2, v3] := by cases args; simp_all
  obtain ⟨rfl, rfl⟩ := trodVars_none hV
  have k0 := h0
  have lt0 : ∀ x ∈ p0, x.block < W.heap.size := by obtain ⟨m, hm⟩ := k0; exact DataW.trod_lt m _ _ _ hm
  obtain ⟨a0, rfl, w0⟩ := open_pm (hval 0 23 v0 rfl rfl) h0
  have k1 := h1
  have lt1 : ∀ x ∈ p1, x.block < W.heap.size := by obtain ⟨m, hm⟩ := k1; exact DataW.trod_lt m _ _ _ hm
  obtain ⟨a1, rfl, w1⟩ := open_ask (hval 1 26 v1 rfl rfl) h1
  have k2 := h2
  have lt2 : ∀ x ∈ p2, x.block < W.heap.size := by obtain ⟨m, hm⟩ := k2; exact DataW.trod_lt m _ _ _ hm
  obtain ⟨a2, rfl, w2⟩ := open_hdr (hval 2 29 v2 rfl rfl) h2
  have k3 := h3
  have lt3 : ∀ x ∈ p3, x.block < W.heap.size := by obtain ⟨m, hm⟩ := k3; exact DataW.trod_lt m _ _ _ hm
  obtain ⟨a3, rfl, w3⟩ := open_hdr (hval 3 29 v3 rfl rfl) h3
  clear hA0 hval0
  refine (walk a0 a1 a2 a3 W w0 w1 w2 w3).mono fun e W' ⟨he, bel⟩ => ?_
  subst he
  exact ⟨_, rfl, _, _, _, [], _, [], hW', trodAll_mk1 (shut_bool Try.underlying4 _), (trodAll_cons_mk (Below.trod laidOut (by kernel_rfl) (of_decide_eq_true (by kernel_rfl)) k0 bel lt0) (trodAll_cons_mk (Below.trod laidOut (by kernel_rfl) (of_decide_eq_true (by kernel_rfl)) k1 bel lt1) (trodAll_cons_mk (Below.trod laidOut (by kernel_rfl) (of_decide_eq_true (by kernel_rfl)) k2 bel lt2) (trodAll_cons_mk (Below.trod laidOut (by kernel_rfl) (of_decide_eq_true (by kernel_rfl)) k3 bel lt3) trodAll_mk0)))), rfl, bel.frame _, fun h => by cases h⟩

theorem over : Rows.checksTwiceRow.holds Try.pinned (OpenSpec.ofChange Rows.checksTwiceSpec) :=
  OpenClaim.holds_of_wide 4 Try.f4 rfl rfl rfl rfl rfl rfl rfl ⟨rfl, rfl, rfl, rfl, rfl⟩ rfl rfl rfl rfl rfl (by kernel_rfl) Try.func4 (by kernel_rfl)
    (of_decide_eq_true (by kernel_rfl)) (by unfold Func.isWrapper; first | (rw [if_pos (by decide +kernel)]; kernel_rfl) | (rw [if_neg (by decide +kernel)]; exact ⟨rfl, rfl⟩))
    (fun os started H enc _ => lifted os started H enc)

theorem proved : Rows.ChecksTwiceSaid := over
end Go.Proofs.Ytjelbpibofngiaa.ChecksTwice
