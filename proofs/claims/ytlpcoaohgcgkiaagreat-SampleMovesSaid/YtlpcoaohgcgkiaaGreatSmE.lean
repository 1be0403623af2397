/- Layer 13's own code, walked: Make. (Written by wip/genSmE.py.) -/
import Derived.Test.YtlpcoaohgcgkiaaGreatSmD
import Derived.Test.YtlpcoaohgcgkiaaGreatCkD
namespace Go.Proofs.YtlpcoaohgcgkiaaGreat.W
open Go.RowKit Go.Sort
set_option linter.unusedVariables false
set_option linter.unusedSimpArgs false
theorem four_at13 {w : World} {p : Nat} {a b c d : Value} {t : TypeId} (h : w.heap[p]? = some (.cells #[a, b, c, d] t (0, 0))) :
    w.cell? ⟨p, 0, none⟩ = some a ∧ w.cell? ⟨p, 1, none⟩ = some b ∧ w.cell? ⟨p, 2, none⟩ = some c ∧ w.cell? ⟨p, 3, none⟩ = some d := by
  refine ⟨?_, ?_, ?_, ?_⟩ <;> simp [World.cell?, h]
theorem six13 {w : World} {b c d : Nat} {p : Pm} {h : Hd} {back : Int} {t u v : TypeId} (hp : w.heap[b]? = some (.cells #[.int .i64 p.step, .int .i64 p.watch, .int .i64 p.panic, .int .i64 p.maxrate, .int .i64 p.phi, .int .i64 p.maxdist, .int .i64 p.gate, .int .i64 p.minpoll, .int .i64 p.maxpoll, .int .i64 p.burst, .int .i64 p.minsane, .int .i64 p.minleft] t (0, 0))) (hh : w.heap[c]? = some (.cells #[.int .i64 h.leap, .int .i64 h.ver, .int .i64 h.mode, .int .i64 h.str, .int .i64 h.poll, .int .i64 h.prec, .int .u32 h.rdel, .int .u32 h.rdis, .int .u32 h.ref, .int .u64 h.reft, .int .u64 h.org, .int .u64 h.rcv, .int .u64 h.tx] u (0, 0))) (ht : w.heap[d]? = some (.cells #[.int .u64 h.org, .int .u64 h.rcv, .int .u64 h.tx, .int .u64 back] v (0, 0))) :
    w.cell? ⟨b, 4, none⟩ = some (.int .i64 p.phi) ∧ w.cell? ⟨c, 5, none⟩ = some (.int .i64 h.prec) ∧ w.cell? ⟨d, 0, none⟩ = some (.int .u64 h.org) ∧ w.cell? ⟨d, 1, none⟩ = some (.int .u64 h.rcv) ∧ w.cell? ⟨d, 2, none⟩ = some (.int .u64 h.tx) ∧ w.cell? ⟨d, 3, none⟩ = some (.int .u64 back) := by
  refine ⟨?_, ?_, ?_, ?_, ?_, ?_⟩ <;> first | (simp [World.cell?, hp]; done) | (simp [World.cell?, hh]; done) | simp [World.cell?, ht]
theorem two_drew (w : World) (x y : Value) (t : TypeId) : (w.alloc (.cells #[x, y] t)).drew.cell? ⟨w.heap.size, 0, none⟩ = some x ∧ (w.alloc (.cells #[x, y] t)).drew.cell? ⟨w.heap.size, 1, none⟩ = some y := two_new w x y t
set_option maxRecDepth 100000 in
set_option maxHeartbeats 12800000 in
theorem smake_raw (p : Pm) (own : Int) (h : Hd) (back : Int) (at_ total : Int) (g : ¬ (0 ≤ at_ ∧ at_ ≤ 4611686018427387904)) (w : World) :
    Calls Tryz.prog 6 #[p.val, .int .i64 own, h.val, .int .u64 back, .int .i64 at_, .int .i64 total] w fun e w' => e = .returned (.tuple #[Smp.zero.val, .int .i64 1]) ∧ Below w.heap.size w w' := by
  have c1 := sraw_any at_
  rw [show decide (0 ≤ at_ ∧ at_ ≤ 4611686018427387904) = false by simpa using g] at c1
  unfold Pm.val Hd.val Smp.val Smp.zero
  dsimp only
  have hp := laid (.cells #[.int .u64 h.org, .int .u64 h.rcv, .int .u64 h.tx, .int .u64 back] 47) (laid (.cells #[.int .i64 0, .int .i64 0, .int .i64 0, .int .i64 0, .int .i64 0] 29) (laid (.cells #[.int .i64 h.leap, .int .i64 h.ver, .int .i64 h.mode, .int .i64 h.str, .int .i64 h.poll, .int .i64 h.prec, .int .u32 h.rdel, .int .u32 h.rdis, .int .u32 h.ref, .int .u64 h.reft, .int .u64 h.org, .int .u64 h.rcv, .int .u64 h.tx] 27) (heap_alloc_new w (.cells #[.int .i64 p.step, .int .i64 p.watch, .int .i64 p.panic, .int .i64 p.maxrate, .int .i64 p.phi, .int .i64 p.maxdist, .int .i64 p.gate, .int .i64 p.minpoll, .int .i64 p.maxpoll, .int .i64 p.burst, .int .i64 p.minsane, .int .i64 p.minleft] 23))))
  have hh := laid (.cells #[.int .u64 h.org, .int .u64 h.rcv, .int .u64 h.tx, .int .u64 back] 47) (laid (.cells #[.int .i64 0, .int .i64 0, .int .i64 0, .int .i64 0, .int .i64 0] 29) (heap_alloc_new (w.alloc (.cells #[.int .i64 p.step, .int .i64 p.watch, .int .i64 p.panic, .int .i64 p.maxrate, .int .i64 p.phi, .int .i64 p.maxdist, .int .i64 p.gate, .int .i64 p.minpoll, .int .i64 p.maxpoll, .int .i64 p.burst, .int .i64 p.minsane, .int .i64 p.minleft] 23)) (.cells #[.int .i64 h.leap, .int .i64 h.ver, .int .i64 h.mode, .int .i64 h.str, .int .i64 h.poll, .int .i64 h.prec, .int .u32 h.rdel, .int .u32 h.rdis, .int .u32 h.ref, .int .u64 h.reft, .int .u64 h.org, .int .u64 h.rcv, .int .u64 h.tx] 27)))
  have hr := laid (.cells #[.int .u64 h.org, .int .u64 h.rcv, .int .u64 h.tx, .int .u64 back] 47) (heap_alloc_new ((w.alloc (.cells #[.int .i64 p.step, .int .i64 p.watch, .int .i64 p.panic, .int .i64 p.maxrate, .int .i64 p.phi, .int .i64 p.maxdist, .int .i64 p.gate, .int .i64 p.minpoll, .int .i64 p.maxpoll, .int .i64 p.burst, .int .i64 p.minsane, .int .i64 p.minleft] 23)).alloc (.cells #[.int .i64 h.leap, .int .i64 h.ver, .int .i64 h.mode, .int .i64 h.str, .int .i64 h.poll, .int .i64 h.prec, .int .u32 h.rdel, .int .u32 h.rdis, .int .u32 h.ref, .int .u64 h.reft, .int .u64 h.org, .int .u64 h.rcv, .int .u64 h.tx] 27)) (.cells #[.int .i64 0, .int .i64 0, .int .i64 0, .int .i64 0, .int .i64 0] 29))
  have ht := heap_alloc_new (((w.alloc (.cells #[.int .i64 p.step, .int .i64 p.watch, .int .i64 p.panic, .int .i64 p.maxrate, .int .i64 p.phi, .int .i64 p.maxdist, .int .i64 p.gate, .int .i64 p.minpoll, .int .i64 p.maxpoll, .int .i64 p.burst, .int .i64 p.minsane, .int .i64 p.minleft] 23)).alloc (.cells #[.int .i64 h.leap, .int .i64 h.ver, .int .i64 h.mode, .int .i64 h.str, .int .i64 h.poll, .int .i64 h.prec, .int .u32 h.rdel, .int .u32 h.rdis, .int .u32 h.ref, .int .u64 h.reft, .int .u64 h.org, .int .u64 h.rcv, .int .u64 h.tx] 27)).alloc (.cells #[.int .i64 0, .int .i64 0, .int .i64 0, .int .i64 0, .int .i64 0] 29)) (.cells #[.int .u64 h.org, .int .u64 h.rcv, .int .u64 h.tx, .int .u64 back] 47)
  have hB := ((((Below.refl w.heap.size w).alloc (Nat.le_refl _) (.cells #[.int .i64 p.step, .int .i64 p.watch, .int .i64 p.panic, .int .i64 p.maxrate, .int .i64 p.phi, .int .i64 p.maxdist, .int .i64 p.gate, .int .i64 p.minpoll, .int .i64 p.maxpoll, .int .i64 p.burst, .int .i64 p.minsane, .int .i64 p.minleft] 23)).alloc (by simp) (.cells #[.int .i64 h.leap, .int .i64 h.ver, .int .i64 h.mode, .int .i64 h.str, .int .i64 h.poll, .int .i64 h.prec, .int .u32 h.rdel, .int .u32 h.rdis, .int .u32 h.ref, .int .u64 h.reft, .int .u64 h.org, .int .u64 h.rcv, .int .u64 h.tx] 27)).alloc (by simp; omega) (.cells #[.int .i64 0, .int .i64 0, .int .i64 0, .int .i64 0, .int .i64 0] 29)).alloc (by simp; omega) (.cells #[.int .u64 h.org, .int .u64 h.rcv, .int .u64 h.tx, .int .u64 back] 47)
  rw [World.size_alloc] at hh
  rw [World.size_alloc, World.size_alloc] at hr
  have hh0 := laid (.cells #[.int .i64 0, .int .i64 0, .int .i64 0, .int .i64 0, .int .i64 0] 29) (heap_alloc_new (w.alloc (.cells #[.int .i64 p.step, .int .i64 p.watch, .int .i64 p.panic, .int .i64 p.maxrate, .int .i64 p.phi, .int .i64 p.maxdist, .int .i64 p.gate, .int .i64 p.minpoll, .int .i64 p.maxpoll, .int .i64 p.burst, .int .i64 p.minsane, .int .i64 p.minleft] 23)) (.cells #[.int .i64 h.leap, .int .i64 h.ver, .int .i64 h.mode, .int .i64 h.str, .int .i64 h.poll, .int .i64 h.prec, .int .u32 h.rdel, .int .u32 h.rdis, .int .u32 h.ref, .int .u64 h.reft, .int .u64 h.org, .int .u64 h.rcv, .int .u64 h.tx] 27))
  rw [World.size_alloc] at hh0
  have lr : w.heap.size + 1 + 1 < (((w.alloc (.cells #[.int .i64 p.step, .int .i64 p.watch, .int .i64 p.panic, .int .i64 p.maxrate, .int .i64 p.phi, .int .i64 p.maxdist, .int .i64 p.gate, .int .i64 p.minpoll, .int .i64 p.maxpoll, .int .i64 p.burst, .int .i64 p.minsane, .int .i64 p.minleft] 23)).alloc (.cells #[.int .i64 h.leap, .int .i64 h.ver, .int .i64 h.mode, .int .i64 h.str, .int .i64 h.poll, .int .i64 h.prec, .int .u32 h.rdel, .int .u32 h.rdis, .int .u32 h.ref, .int .u64 h.reft, .int .u64 h.org, .int .u64 h.rcv, .int .u64 h.tx] 27)).alloc (.cells #[.int .i64 0, .int .i64 0, .int .i64 0, .int .i64 0, .int .i64 0] 29)).heap.size := by simp
  go_enter Tryz.func6, Tryz.ntmps6
  go_upto_region 1 with fail
  generalize ((w.alloc (.cells #[.int .i64 p.step, .int .i64 p.watch, .int .i64 p.panic, .int .i64 p.maxrate, .int .i64 p.phi, .int .i64 p.maxdist, .int .i64 p.gate, .int .i64 p.minpoll, .int .i64 p.maxpoll, .int .i64 p.burst, .int .i64 p.minsane, .int .i64 p.minleft] 23)).alloc (.cells #[.int .i64 h.leap, .int .i64 h.ver, .int .i64 h.mode, .int .i64 h.str, .int .i64 h.poll, .int .i64 h.prec, .int .u32 h.rdel, .int .u32 h.rdis, .int .u32 h.ref, .int .u64 h.reft, .int .u64 h.org, .int .u64 h.rcv, .int .u64 h.tx] 27)).alloc (.cells #[.int .i64 0, .int .i64 0, .int .i64 0, .int .i64 0, .int .i64 0] 29) = w1 at *
  obtain ⟨h0, h1, h2, h3, h4, h5, h6, h7, h8, h9, h10, h11, h12⟩ := thirteen_in hh0
  go_upto_region 2 with fail
  generalize w1.alloc (.cells #[.int .u64 h.org, .int .u64 h.rcv, .int .u64 h.tx, .int .u64 back] 47) = u0 at *
  generalize w1.heap.size = bt at *
  clear h0 h1 h2 h3 h4 h5 h6 h7 h8 h9 h10 h11 h12 hh0
  obtain ⟨x0, x1, x2, x3, x4⟩ := five_in hr
  have fz := five_thaw hr
  have n5 := new5 (.int .i64 0) (.int .i64 0) (.int .i64 0) (.int .i64 0) (.int .i64 0) hr
  have B5 := below5 (.int .i64 0) (.int .i64 0) (.int .i64 0) (.int .i64 0) (.int .i64 0) hB (show w.heap.size ≤ w.heap.size + 1 + 1 by omega)
  have HH := Lib.hid (And.intro n5 B5)
  clear n5 B5 hB hr hh hp ht
  go_wp2_with fail
  (with_reducible refine (c1 _).mono ?_)
  rintro e w2 ⟨rfl, rfl⟩
  go_wp2_with fail
  obtain ⟨n5, B5⟩ := HH.out
  obtain ⟨f0, f1, f2, f3, f4⟩ := five_in n5
  refine bodyPost_ret (v := .tuple #[.agg #[.int .i64 0, .int .i64 0, .int .i64 0, .int .i64 0, .int .i64 0], .int .i64 1]) ?_ rfl ⟨rfl, B5⟩
  simp [results, Tryz.results6, go_sem, f0, f1, f2, f3, f4]
set_option maxRecDepth 100000 in
set_option maxHeartbeats 12800000 in
theorem smake_back (p : Pm) (own : Int) (h : Hd) (th : h.Typed) (back : Int) (b0 : 0 ≤ back ∧ back < 18446744073709551616) (at_ total : Int) (g : 0 ≤ at_ ∧ at_ ≤ 4611686018427387904) (f : dfI back h.org < 0 ∨ dfI h.tx h.rcv < 0) (w : World) :
    Calls Tryz.prog 6 #[p.val, .int .i64 own, h.val, .int .u64 back, .int .i64 at_, .int .i64 total] w fun e w' => e = .returned (.tuple #[Smp.zero.val, .int .i64 1]) ∧ Below w.heap.size w w' := by
  have c1 := sraw_any at_
  rw [show decide (0 ≤ at_ ∧ at_ ≤ 4611686018427387904) = true by simpa using g] at c1
  have c2 := sback2 h.org h.rcv h.tx back ⟨th.org, th.rcv, th.tx, b0⟩
  rw [show decide (dfI back h.org < 0 ∨ dfI h.tx h.rcv < 0) = true by simpa using f] at c2
  clear f
  unfold gapV tmC at c2
  unfold Pm.val Hd.val Smp.val Smp.zero
  dsimp only
  have hp := laid (.cells #[.int .u64 h.org, .int .u64 h.rcv, .int .u64 h.tx, .int .u64 back] 47) (laid (.cells #[.int .i64 0, .int .i64 0, .int .i64 0, .int .i64 0, .int .i64 0] 29) (laid (.cells #[.int .i64 h.leap, .int .i64 h.ver, .int .i64 h.mode, .int .i64 h.str, .int .i64 h.poll, .int .i64 h.prec, .int .u32 h.rdel, .int .u32 h.rdis, .int .u32 h.ref, .int .u64 h.reft, .int .u64 h.org, .int .u64 h.rcv, .int .u64 h.tx] 27) (heap_alloc_new w (.cells #[.int .i64 p.step, .int .i64 p.watch, .int .i64 p.panic, .int .i64 p.maxrate, .int .i64 p.phi, .int .i64 p.maxdist, .int .i64 p.gate, .int .i64 p.minpoll, .int .i64 p.maxpoll, .int .i64 p.burst, .int .i64 p.minsane, .int .i64 p.minleft] 23))))
  have hh := laid (.cells #[.int .u64 h.org, .int .u64 h.rcv, .int .u64 h.tx, .int .u64 back] 47) (laid (.cells #[.int .i64 0, .int .i64 0, .int .i64 0, .int .i64 0, .int .i64 0] 29) (heap_alloc_new (w.alloc (.cells #[.int .i64 p.step, .int .i64 p.watch, .int .i64 p.panic, .int .i64 p.maxrate, .int .i64 p.phi, .int .i64 p.maxdist, .int .i64 p.gate, .int .i64 p.minpoll, .int .i64 p.maxpoll, .int .i64 p.burst, .int .i64 p.minsane, .int .i64 p.minleft] 23)) (.cells #[.int .i64 h.leap, .int .i64 h.ver, .int .i64 h.mode, .int .i64 h.str, .int .i64 h.poll, .int .i64 h.prec, .int .u32 h.rdel, .int .u32 h.rdis, .int .u32 h.ref, .int .u64 h.reft, .int .u64 h.org, .int .u64 h.rcv, .int .u64 h.tx] 27)))
  have hr := laid (.cells #[.int .u64 h.org, .int .u64 h.rcv, .int .u64 h.tx, .int .u64 back] 47) (heap_alloc_new ((w.alloc (.cells #[.int .i64 p.step, .int .i64 p.watch, .int .i64 p.panic, .int .i64 p.maxrate, .int .i64 p.phi, .int .i64 p.maxdist, .int .i64 p.gate, .int .i64 p.minpoll, .int .i64 p.maxpoll, .int .i64 p.burst, .int .i64 p.minsane, .int .i64 p.minleft] 23)).alloc (.cells #[.int .i64 h.leap, .int .i64 h.ver, .int .i64 h.mode, .int .i64 h.str, .int .i64 h.poll, .int .i64 h.prec, .int .u32 h.rdel, .int .u32 h.rdis, .int .u32 h.ref, .int .u64 h.reft, .int .u64 h.org, .int .u64 h.rcv, .int .u64 h.tx] 27)) (.cells #[.int .i64 0, .int .i64 0, .int .i64 0, .int .i64 0, .int .i64 0] 29))
  have ht := heap_alloc_new (((w.alloc (.cells #[.int .i64 p.step, .int .i64 p.watch, .int .i64 p.panic, .int .i64 p.maxrate, .int .i64 p.phi, .int .i64 p.maxdist, .int .i64 p.gate, .int .i64 p.minpoll, .int .i64 p.maxpoll, .int .i64 p.burst, .int .i64 p.minsane, .int .i64 p.minleft] 23)).alloc (.cells #[.int .i64 h.leap, .int .i64 h.ver, .int .i64 h.mode, .int .i64 h.str, .int .i64 h.poll, .int .i64 h.prec, .int .u32 h.rdel, .int .u32 h.rdis, .int .u32 h.ref, .int .u64 h.reft, .int .u64 h.org, .int .u64 h.rcv, .int .u64 h.tx] 27)).alloc (.cells #[.int .i64 0, .int .i64 0, .int .i64 0, .int .i64 0, .int .i64 0] 29)) (.cells #[.int .u64 h.org, .int .u64 h.rcv, .int .u64 h.tx, .int .u64 back] 47)
  have hB := ((((Below.refl w.heap.size w).alloc (Nat.le_refl _) (.cells #[.int .i64 p.step, .int .i64 p.watch, .int .i64 p.panic, .int .i64 p.maxrate, .int .i64 p.phi, .int .i64 p.maxdist, .int .i64 p.gate, .int .i64 p.minpoll, .int .i64 p.maxpoll, .int .i64 p.burst, .int .i64 p.minsane, .int .i64 p.minleft] 23)).alloc (by simp) (.cells #[.int .i64 h.leap, .int .i64 h.ver, .int .i64 h.mode, .int .i64 h.str, .int .i64 h.poll, .int .i64 h.prec, .int .u32 h.rdel, .int .u32 h.rdis, .int .u32 h.ref, .int .u64 h.reft, .int .u64 h.org, .int .u64 h.rcv, .int .u64 h.tx] 27)).alloc (by simp; omega) (.cells #[.int .i64 0, .int .i64 0, .int .i64 0, .int .i64 0, .int .i64 0] 29)).alloc (by simp; omega) (.cells #[.int .u64 h.org, .int .u64 h.rcv, .int .u64 h.tx, .int .u64 back] 47)
  rw [World.size_alloc] at hh
  rw [World.size_alloc, World.size_alloc] at hr
  have hh0 := laid (.cells #[.int .i64 0, .int .i64 0, .int .i64 0, .int .i64 0, .int .i64 0] 29) (heap_alloc_new (w.alloc (.cells #[.int .i64 p.step, .int .i64 p.watch, .int .i64 p.panic, .int .i64 p.maxrate, .int .i64 p.phi, .int .i64 p.maxdist, .int .i64 p.gate, .int .i64 p.minpoll, .int .i64 p.maxpoll, .int .i64 p.burst, .int .i64 p.minsane, .int .i64 p.minleft] 23)) (.cells #[.int .i64 h.leap, .int .i64 h.ver, .int .i64 h.mode, .int .i64 h.str, .int .i64 h.poll, .int .i64 h.prec, .int .u32 h.rdel, .int .u32 h.rdis, .int .u32 h.ref, .int .u64 h.reft, .int .u64 h.org, .int .u64 h.rcv, .int .u64 h.tx] 27))
  rw [World.size_alloc] at hh0
  have lr : w.heap.size + 1 + 1 < (((w.alloc (.cells #[.int .i64 p.step, .int .i64 p.watch, .int .i64 p.panic, .int .i64 p.maxrate, .int .i64 p.phi, .int .i64 p.maxdist, .int .i64 p.gate, .int .i64 p.minpoll, .int .i64 p.maxpoll, .int .i64 p.burst, .int .i64 p.minsane, .int .i64 p.minleft] 23)).alloc (.cells #[.int .i64 h.leap, .int .i64 h.ver, .int .i64 h.mode, .int .i64 h.str, .int .i64 h.poll, .int .i64 h.prec, .int .u32 h.rdel, .int .u32 h.rdis, .int .u32 h.ref, .int .u64 h.reft, .int .u64 h.org, .int .u64 h.rcv, .int .u64 h.tx] 27)).alloc (.cells #[.int .i64 0, .int .i64 0, .int .i64 0, .int .i64 0, .int .i64 0] 29)).heap.size := by simp
  go_enter Tryz.func6, Tryz.ntmps6
  go_upto_region 1 with fail
  generalize ((w.alloc (.cells #[.int .i64 p.step, .int .i64 p.watch, .int .i64 p.panic, .int .i64 p.maxrate, .int .i64 p.phi, .int .i64 p.maxdist, .int .i64 p.gate, .int .i64 p.minpoll, .int .i64 p.maxpoll, .int .i64 p.burst, .int .i64 p.minsane, .int .i64 p.minleft] 23)).alloc (.cells #[.int .i64 h.leap, .int .i64 h.ver, .int .i64 h.mode, .int .i64 h.str, .int .i64 h.poll, .int .i64 h.prec, .int .u32 h.rdel, .int .u32 h.rdis, .int .u32 h.ref, .int .u64 h.reft, .int .u64 h.org, .int .u64 h.rcv, .int .u64 h.tx] 27)).alloc (.cells #[.int .i64 0, .int .i64 0, .int .i64 0, .int .i64 0, .int .i64 0] 29) = w1 at *
  obtain ⟨h0, h1, h2, h3, h4, h5, h6, h7, h8, h9, h10, h11, h12⟩ := thirteen_in hh0
  go_upto_region 2 with fail
  generalize w1.alloc (.cells #[.int .u64 h.org, .int .u64 h.rcv, .int .u64 h.tx, .int .u64 back] 47) = u0 at *
  generalize w1.heap.size = bt at *
  clear h0 h1 h2 h3 h4 h5 h6 h7 h8 h9 h10 h11 h12 hh0
  obtain ⟨t0, t1, t2, t3⟩ := four_at13 ht
  go_wp2_with fail
  (with_reducible refine (c1 _).mono ?_)
  rintro e w2 ⟨rfl, rfl⟩
  replace hr := laid (.cells #[.func (.func 15) #[.agg #[.int .u64 h.org, .int .u64 h.rcv, .int .u64 h.tx, .int .u64 back]] #[], .func (.func 16) #[.agg #[.int .u64 h.org, .int .u64 h.rcv, .int .u64 h.tx, .int .u64 back]] #[]] 66) hr
  replace hB := hB.alloc hB.size (.cells #[.func (.func 15) #[.agg #[.int .u64 h.org, .int .u64 h.rcv, .int .u64 h.tx, .int .u64 back]] #[], .func (.func 16) #[.agg #[.int .u64 h.org, .int .u64 h.rcv, .int .u64 h.tx, .int .u64 back]] #[]] 66)
  go_wp2_with fail
  (with_reducible refine (c2 _ _ _ (by simp) (two_new _ _ _ _).1 (two_new _ _ _ _).2).mono ?_)
  rintro e w3 ⟨rfl, hw⟩
  replace hr := kept hr hw
  replace hB := hB.trans (hw.mono hB.size)
  clear hw t0 t1 t2 t3
  obtain ⟨x0, x1, x2, x3, x4⟩ := five_in hr
  have fz := five_thaw hr
  have n5 := new5 (.int .i64 0) (.int .i64 0) (.int .i64 0) (.int .i64 0) (.int .i64 0) hr
  have B5 := below5 (.int .i64 0) (.int .i64 0) (.int .i64 0) (.int .i64 0) (.int .i64 0) hB (show w.heap.size ≤ w.heap.size + 1 + 1 by omega)
  have HH := Lib.hid (And.intro n5 B5)
  clear n5 B5 hB hr hh hp ht
  go_wp2_with fail
  obtain ⟨n5, B5⟩ := HH.out
  obtain ⟨f0, f1, f2, f3, f4⟩ := five_in n5
  refine bodyPost_ret (v := .tuple #[.agg #[.int .i64 0, .int .i64 0, .int .i64 0, .int .i64 0, .int .i64 0], .int .i64 1]) ?_ rfl ⟨rfl, B5⟩
  simp [results, Tryz.results6, go_sem, f0, f1, f2, f3, f4]
set_option maxRecDepth 100000 in
set_option maxHeartbeats 12800000 in
theorem smake_good (p : Pm) (t : p.Typed) (own : Int) (o0 : -9223372036854775808 ≤ own ∧ own ≤ 9223372036854775807) (h : Hd) (th : h.Typed) (back : Int) (b0 : 0 ≤ back ∧ back < 18446744073709551616) (at_ total : Int) (g : 0 ≤ at_ ∧ at_ ≤ 4611686018427387904) (f : ¬ (dfI back h.org < 0 ∨ dfI h.tx h.rcv < 0)) (w : World) :
    Calls Tryz.prog 6 #[p.val, .int .i64 own, h.val, .int .u64 back, .int .i64 at_, .int .i64 total] w fun e w' => e = .returned (.tuple #[(makeV p own h back at_ total).val, .int .i64 0]) ∧ Below w.heap.size w w' := by
  have c1 := sraw_any at_
  rw [show decide (0 ≤ at_ ∧ at_ ≤ 4611686018427387904) = true by simpa using g] at c1
  have c2 := sback2 h.org h.rcv h.tx back ⟨th.org, th.rcv, th.tx, b0⟩
  rw [show decide (dfI back h.org < 0 ∨ dfI h.tx h.rcv < 0) = false by simpa using f] at c2
  have cm := smean2 h.org h.rcv h.tx back ⟨th.org, th.rcv, th.tx, b0⟩
  have ca := saway_any h.org h.rcv h.tx back ⟨th.org, th.rcv, th.tx, b0⟩
  have cs := sstay_any h.org h.rcv h.tx back ⟨th.org, th.rcv, th.tx, b0⟩
  have r1 := dfI_range back h.org
  have r2 := dfI_range h.tx h.rcv
  have cb := sub_any (dfI back h.org) (dfI h.tx h.rcv) (by omega) (by omega) (by omega) (by omega)
  have co : ∀ W, Calls Tryz.prog 21 #[.int .i64 own] W fun e w' => e = .returned (.int .i64 (powI own)) ∧ W = w' := pow_any own o0.1 o0.2
  have cp : ∀ W, Calls Tryz.prog 21 #[.int .i64 h.prec] W fun e w' => e = .returned (.int .i64 (powI h.prec)) ∧ W = w' := pow_any h.prec th.prec.1 th.prec.2
  have cu := fmul_any p.phi (dfI back h.org) t.phi.1 t.phi.2 (by omega) (by omega)
  have r3 := powI_range h.prec
  have r4 := powI_range own
  have r5 := mulI_range' p.phi (dfI back h.org)
  have ct := fun b cap W => ssum2 (powI h.prec) (powI own) (mulI p.phi (dfI back h.org)) b cap (by omega) (by omega) (by omega) (by omega) (by omega) (by omega) W
  unfold makeV gapV tmC at *
  obtain ⟨dl, hdl⟩ : ∃ dl, max (subI (dfI back h.org) (dfI h.tx h.rcv)) (powI own) = dl := ⟨_, rfl⟩
  have hmax := fun ts t => run_maxS _ _ dl hdl ts t
  rw [hdl]
  generalize addI (addI (powI h.prec) (powI own)) (mulI p.phi (dfI back h.org)) = di at *
  generalize meanI [dfI h.rcv h.org, dfI h.tx back] = Mn at *
  generalize mulI p.phi (dfI back h.org) = Mu at *
  generalize subI (dfI back h.org) (dfI h.tx h.rcv) = Sb at *
  generalize dfI back h.org = D1 at *
  generalize dfI h.tx h.rcv = D2 at *
  generalize powI own = Pw at *
  generalize powI h.prec = Pp at *
  unfold Pm.val Hd.val Smp.val
  dsimp only
  clear f g r1 r2 r3 r4 r5 hdl t o0 th b0
  have hp := laid (.cells #[.int .u64 h.org, .int .u64 h.rcv, .int .u64 h.tx, .int .u64 back] 47) (laid (.cells #[.int .i64 0, .int .i64 0, .int .i64 0, .int .i64 0, .int .i64 0] 29) (laid (.cells #[.int .i64 h.leap, .int .i64 h.ver, .int .i64 h.mode, .int .i64 h.str, .int .i64 h.poll, .int .i64 h.prec, .int .u32 h.rdel, .int .u32 h.rdis, .int .u32 h.ref, .int .u64 h.reft, .int .u64 h.org, .int .u64 h.rcv, .int .u64 h.tx] 27) (heap_alloc_new w (.cells #[.int .i64 p.step, .int .i64 p.watch, .int .i64 p.panic, .int .i64 p.maxrate, .int .i64 p.phi, .int .i64 p.maxdist, .int .i64 p.gate, .int .i64 p.minpoll, .int .i64 p.maxpoll, .int .i64 p.burst, .int .i64 p.minsane, .int .i64 p.minleft] 23))))
  have hh := laid (.cells #[.int .u64 h.org, .int .u64 h.rcv, .int .u64 h.tx, .int .u64 back] 47) (laid (.cells #[.int .i64 0, .int .i64 0, .int .i64 0, .int .i64 0, .int .i64 0] 29) (heap_alloc_new (w.alloc (.cells #[.int .i64 p.step, .int .i64 p.watch, .int .i64 p.panic, .int .i64 p.maxrate, .int .i64 p.phi, .int .i64 p.maxdist, .int .i64 p.gate, .int .i64 p.minpoll, .int .i64 p.maxpoll, .int .i64 p.burst, .int .i64 p.minsane, .int .i64 p.minleft] 23)) (.cells #[.int .i64 h.leap, .int .i64 h.ver, .int .i64 h.mode, .int .i64 h.str, .int .i64 h.poll, .int .i64 h.prec, .int .u32 h.rdel, .int .u32 h.rdis, .int .u32 h.ref, .int .u64 h.reft, .int .u64 h.org, .int .u64 h.rcv, .int .u64 h.tx] 27)))
  have hr := laid (.cells #[.int .u64 h.org, .int .u64 h.rcv, .int .u64 h.tx, .int .u64 back] 47) (heap_alloc_new ((w.alloc (.cells #[.int .i64 p.step, .int .i64 p.watch, .int .i64 p.panic, .int .i64 p.maxrate, .int .i64 p.phi, .int .i64 p.maxdist, .int .i64 p.gate, .int .i64 p.minpoll, .int .i64 p.maxpoll, .int .i64 p.burst, .int .i64 p.minsane, .int .i64 p.minleft] 23)).alloc (.cells #[.int .i64 h.leap, .int .i64 h.ver, .int .i64 h.mode, .int .i64 h.str, .int .i64 h.poll, .int .i64 h.prec, .int .u32 h.rdel, .int .u32 h.rdis, .int .u32 h.ref, .int .u64 h.reft, .int .u64 h.org, .int .u64 h.rcv, .int .u64 h.tx] 27)) (.cells #[.int .i64 0, .int .i64 0, .int .i64 0, .int .i64 0, .int .i64 0] 29))
  have ht := heap_alloc_new (((w.alloc (.cells #[.int .i64 p.step, .int .i64 p.watch, .int .i64 p.panic, .int .i64 p.maxrate, .int .i64 p.phi, .int .i64 p.maxdist, .int .i64 p.gate, .int .i64 p.minpoll, .int .i64 p.maxpoll, .int .i64 p.burst, .int .i64 p.minsane, .int .i64 p.minleft] 23)).alloc (.cells #[.int .i64 h.leap, .int .i64 h.ver, .int .i64 h.mode, .int .i64 h.str, .int .i64 h.poll, .int .i64 h.prec, .int .u32 h.rdel, .int .u32 h.rdis, .int .u32 h.ref, .int .u64 h.reft, .int .u64 h.org, .int .u64 h.rcv, .int .u64 h.tx] 27)).alloc (.cells #[.int .i64 0, .int .i64 0, .int .i64 0, .int .i64 0, .int .i64 0] 29)) (.cells #[.int .u64 h.org, .int .u64 h.rcv, .int .u64 h.tx, .int .u64 back] 47)
  have hB := ((((Below.refl w.heap.size w).alloc (Nat.le_refl _) (.cells #[.int .i64 p.step, .int .i64 p.watch, .int .i64 p.panic, .int .i64 p.maxrate, .int .i64 p.phi, .int .i64 p.maxdist, .int .i64 p.gate, .int .i64 p.minpoll, .int .i64 p.maxpoll, .int .i64 p.burst, .int .i64 p.minsane, .int .i64 p.minleft] 23)).alloc (by simp) (.cells #[.int .i64 h.leap, .int .i64 h.ver, .int .i64 h.mode, .int .i64 h.str, .int .i64 h.poll, .int .i64 h.prec, .int .u32 h.rdel, .int .u32 h.rdis, .int .u32 h.ref, .int .u64 h.reft, .int .u64 h.org, .int .u64 h.rcv, .int .u64 h.tx] 27)).alloc (by simp; omega) (.cells #[.int .i64 0, .int .i64 0, .int .i64 0, .int .i64 0, .int .i64 0] 29)).alloc (by simp; omega) (.cells #[.int .u64 h.org, .int .u64 h.rcv, .int .u64 h.tx, .int .u64 back] 47)
  rw [World.size_alloc] at hh
  rw [World.size_alloc, World.size_alloc] at hr
  have hh0 := laid (.cells #[.int .i64 0, .int .i64 0, .int .i64 0, .int .i64 0, .int .i64 0] 29) (heap_alloc_new (w.alloc (.cells #[.int .i64 p.step, .int .i64 p.watch, .int .i64 p.panic, .int .i64 p.maxrate, .int .i64 p.phi, .int .i64 p.maxdist, .int .i64 p.gate, .int .i64 p.minpoll, .int .i64 p.maxpoll, .int .i64 p.burst, .int .i64 p.minsane, .int .i64 p.minleft] 23)) (.cells #[.int .i64 h.leap, .int .i64 h.ver, .int .i64 h.mode, .int .i64 h.str, .int .i64 h.poll, .int .i64 h.prec, .int .u32 h.rdel, .int .u32 h.rdis, .int .u32 h.ref, .int .u64 h.reft, .int .u64 h.org, .int .u64 h.rcv, .int .u64 h.tx] 27))
  rw [World.size_alloc] at hh0
  have lr : w.heap.size + 1 + 1 < (((w.alloc (.cells #[.int .i64 p.step, .int .i64 p.watch, .int .i64 p.panic, .int .i64 p.maxrate, .int .i64 p.phi, .int .i64 p.maxdist, .int .i64 p.gate, .int .i64 p.minpoll, .int .i64 p.maxpoll, .int .i64 p.burst, .int .i64 p.minsane, .int .i64 p.minleft] 23)).alloc (.cells #[.int .i64 h.leap, .int .i64 h.ver, .int .i64 h.mode, .int .i64 h.str, .int .i64 h.poll, .int .i64 h.prec, .int .u32 h.rdel, .int .u32 h.rdis, .int .u32 h.ref, .int .u64 h.reft, .int .u64 h.org, .int .u64 h.rcv, .int .u64 h.tx] 27)).alloc (.cells #[.int .i64 0, .int .i64 0, .int .i64 0, .int .i64 0, .int .i64 0] 29)).heap.size := by simp
  go_enter Tryz.func6, Tryz.ntmps6
  go_upto_region 1 with fail
  generalize ((w.alloc (.cells #[.int .i64 p.step, .int .i64 p.watch, .int .i64 p.panic, .int .i64 p.maxrate, .int .i64 p.phi, .int .i64 p.maxdist, .int .i64 p.gate, .int .i64 p.minpoll, .int .i64 p.maxpoll, .int .i64 p.burst, .int .i64 p.minsane, .int .i64 p.minleft] 23)).alloc (.cells #[.int .i64 h.leap, .int .i64 h.ver, .int .i64 h.mode, .int .i64 h.str, .int .i64 h.poll, .int .i64 h.prec, .int .u32 h.rdel, .int .u32 h.rdis, .int .u32 h.ref, .int .u64 h.reft, .int .u64 h.org, .int .u64 h.rcv, .int .u64 h.tx] 27)).alloc (.cells #[.int .i64 0, .int .i64 0, .int .i64 0, .int .i64 0, .int .i64 0] 29) = w1 at *
  obtain ⟨h0, h1, h2, h3, h4, h5, h6, h7, h8, h9, h10, h11, h12⟩ := thirteen_in hh0
  go_upto_region 2 with fail
  generalize w1.alloc (.cells #[.int .u64 h.org, .int .u64 h.rcv, .int .u64 h.tx, .int .u64 back] 47) = u0 at *
  generalize w1.heap.size = bt at *
  clear h0 h1 h2 h3 h4 h5 h6 h7 h8 h9 h10 h11 h12 hh0
  obtain ⟨t0, t1, t2, t3⟩ := four_at13 ht
  go_wp2_with fail
  (with_reducible refine (c1 _).mono ?_)
  rintro e w2 ⟨rfl, rfl⟩
  replace hp := laid (.cells #[.func (.func 15) #[.agg #[.int .u64 h.org, .int .u64 h.rcv, .int .u64 h.tx, .int .u64 back]] #[], .func (.func 16) #[.agg #[.int .u64 h.org, .int .u64 h.rcv, .int .u64 h.tx, .int .u64 back]] #[]] 66) hp
  replace hh := laid (.cells #[.func (.func 15) #[.agg #[.int .u64 h.org, .int .u64 h.rcv, .int .u64 h.tx, .int .u64 back]] #[], .func (.func 16) #[.agg #[.int .u64 h.org, .int .u64 h.rcv, .int .u64 h.tx, .int .u64 back]] #[]] 66) hh
  replace ht := laid (.cells #[.func (.func 15) #[.agg #[.int .u64 h.org, .int .u64 h.rcv, .int .u64 h.tx, .int .u64 back]] #[], .func (.func 16) #[.agg #[.int .u64 h.org, .int .u64 h.rcv, .int .u64 h.tx, .int .u64 back]] #[]] 66) ht
  replace hr := laid (.cells #[.func (.func 15) #[.agg #[.int .u64 h.org, .int .u64 h.rcv, .int .u64 h.tx, .int .u64 back]] #[], .func (.func 16) #[.agg #[.int .u64 h.org, .int .u64 h.rcv, .int .u64 h.tx, .int .u64 back]] #[]] 66) hr
  replace hB := hB.alloc hB.size (.cells #[.func (.func 15) #[.agg #[.int .u64 h.org, .int .u64 h.rcv, .int .u64 h.tx, .int .u64 back]] #[], .func (.func 16) #[.agg #[.int .u64 h.org, .int .u64 h.rcv, .int .u64 h.tx, .int .u64 back]] #[]] 66)
  go_wp2_with fail
  (with_reducible refine (c2 _ _ _ (by simp) (two_new _ _ _ _).1 (two_new _ _ _ _).2).mono ?_)
  rintro e w3 ⟨rfl, hw⟩
  replace hp := kept hp hw
  replace hh := kept hh hw
  replace ht := kept ht hw
  replace hr := kept hr hw
  replace hB := hB.trans (hw.mono hB.size)
  clear hw t0 t1 t2 t3 c1 c2
  go_upto_region 4 with fail
  have hp0 : w3.drew.heap[w.heap.size]? = some _ := hp
  have hh0 : w3.drew.heap[w.heap.size + 1]? = some _ := hh
  have hr0 : w3.drew.heap[w.heap.size + 1 + 1]? = some _ := hr
  have ht0 : w3.drew.heap[bt]? = some _ := ht
  have hB0 : Below w.heap.size w w3.drew := hB.drew
  have hp1 : (w3.alloc (.cells #[.func (.func 18) #[.agg #[.int .u64 h.org, .int .u64 h.rcv, .int .u64 h.tx, .int .u64 back]] #[], .func (.func 19) #[.agg #[.int .u64 h.org, .int .u64 h.rcv, .int .u64 h.tx, .int .u64 back]] #[]] 66)).drew.heap[_]? = some _ := laid (.cells #[.func (.func 18) #[.agg #[.int .u64 h.org, .int .u64 h.rcv, .int .u64 h.tx, .int .u64 back]] #[], .func (.func 19) #[.agg #[.int .u64 h.org, .int .u64 h.rcv, .int .u64 h.tx, .int .u64 back]] #[]] 66) hp
  have hh1 : (w3.alloc (.cells #[.func (.func 18) #[.agg #[.int .u64 h.org, .int .u64 h.rcv, .int .u64 h.tx, .int .u64 back]] #[], .func (.func 19) #[.agg #[.int .u64 h.org, .int .u64 h.rcv, .int .u64 h.tx, .int .u64 back]] #[]] 66)).drew.heap[_]? = some _ := laid (.cells #[.func (.func 18) #[.agg #[.int .u64 h.org, .int .u64 h.rcv, .int .u64 h.tx, .int .u64 back]] #[], .func (.func 19) #[.agg #[.int .u64 h.org, .int .u64 h.rcv, .int .u64 h.tx, .int .u64 back]] #[]] 66) hh
  have hr1 : (w3.alloc (.cells #[.func (.func 18) #[.agg #[.int .u64 h.org, .int .u64 h.rcv, .int .u64 h.tx, .int .u64 back]] #[], .func (.func 19) #[.agg #[.int .u64 h.org, .int .u64 h.rcv, .int .u64 h.tx, .int .u64 back]] #[]] 66)).drew.heap[_]? = some _ := laid (.cells #[.func (.func 18) #[.agg #[.int .u64 h.org, .int .u64 h.rcv, .int .u64 h.tx, .int .u64 back]] #[], .func (.func 19) #[.agg #[.int .u64 h.org, .int .u64 h.rcv, .int .u64 h.tx, .int .u64 back]] #[]] 66) hr
  have ht1 : (w3.alloc (.cells #[.func (.func 18) #[.agg #[.int .u64 h.org, .int .u64 h.rcv, .int .u64 h.tx, .int .u64 back]] #[], .func (.func 19) #[.agg #[.int .u64 h.org, .int .u64 h.rcv, .int .u64 h.tx, .int .u64 back]] #[]] 66)).drew.heap[_]? = some _ := laid (.cells #[.func (.func 18) #[.agg #[.int .u64 h.org, .int .u64 h.rcv, .int .u64 h.tx, .int .u64 back]] #[], .func (.func 19) #[.agg #[.int .u64 h.org, .int .u64 h.rcv, .int .u64 h.tx, .int .u64 back]] #[]] 66) ht
  have hB1 : Below w.heap.size w (w3.alloc (.cells #[.func (.func 18) #[.agg #[.int .u64 h.org, .int .u64 h.rcv, .int .u64 h.tx, .int .u64 back]] #[], .func (.func 19) #[.agg #[.int .u64 h.org, .int .u64 h.rcv, .int .u64 h.tx, .int .u64 back]] #[]] 66)).drew := (hB.alloc hB.size (.cells #[.func (.func 18) #[.agg #[.int .u64 h.org, .int .u64 h.rcv, .int .u64 h.tx, .int .u64 back]] #[], .func (.func 19) #[.agg #[.int .u64 h.org, .int .u64 h.rcv, .int .u64 h.tx, .int .u64 back]] #[]] 66)).drew
  have K0 := six13 hp0 hh0 ht0
  have K1 := six13 hp1 hh1 ht1
  clear hp hh hr ht hB
  go_cut [13] (fun e wx => e = .int .i64 0 ∧ wx.heap[w.heap.size + 1 + 1]? = some (.cells #[.int .i64 Mn, .int .i64 dl, .int .i64 di, .int .i64 at_, .int .i64 total] 29 (0, 0)) ∧ Below w.heap.size w wx)
  case first =>
    go_region_held3 (fun w' => w'.cell? ⟨w.heap.size, 4, none⟩ = some (.int .i64 p.phi) ∧ w'.cell? ⟨w.heap.size + 1, 5, none⟩ = some (.int .i64 h.prec) ∧ w'.cell? ⟨bt, 0, none⟩ = some (.int .u64 h.org) ∧ w'.cell? ⟨bt, 1, none⟩ = some (.int .u64 h.rcv) ∧ w'.cell? ⟨bt, 2, none⟩ = some (.int .u64 h.tx) ∧ w'.cell? ⟨bt, 3, none⟩ = some (.int .u64 back))
      (with_reducible assumption)
      (first
      | (go_at_call 17; refine (cm _ _ _ (by simp) (two_drew _ _ _ _).1 (two_drew _ _ _ _).2).mono ?_; rintro e v1 ⟨rfl, hw⟩; have hp2 := kept hp1 hw; have hh2 := kept hh1 hw; have hr2 := kept hr1 hw; have ht2 := kept ht1 hw; have hB2 := hB1.trans (hw.mono hB1.size); have K2 := six13 hp2 hh2 ht2; clear hw)
      | (go_at_call 15; have hX := hB4; (with_reducible refine (ca _).mono ?_); rintro e v4 ⟨rfl, hw⟩; have hp5 := kept hp4 hw; have hh5 := kept hh4 hw; have hr5 := kept hr4 hw; have ht5 := kept ht4 hw; have hB5 := hB4.trans (hw.mono hB4.size); have K5 := six13 hp5 hh5 ht5; clear hw)
      | (go_at_call 15; (with_reducible refine (ca _).mono ?_); rintro e v2 ⟨rfl, hw⟩; have hp3 := kept hp2 hw; have hh3 := kept hh2 hw; have hr3 := kept hr2 hw; have ht3 := kept ht2 hw; have hB3 := hB2.trans (hw.mono hB2.size); have K3 := six13 hp3 hh3 ht3; clear hw)
      | (go_at_call 16; (with_reducible refine (cs _).mono ?_); rintro e v3 ⟨rfl, hw⟩; have hp4 := kept hp3 hw; have hh4 := kept hh3 hw; have hr4 := kept hr3 hw; have ht4 := kept ht3 hw; have hB4 := hB3.trans (hw.mono hB3.size); have K4 := six13 hp4 hh4 ht4; clear hw)
      | (go_at_call 20; (with_reducible refine (cb _).mono ?_); rintro e x ⟨rfl, rfl⟩)
      | (go_at_call 21; (first | (with_reducible refine (co _).mono ?_) | (with_reducible refine (cp _).mono ?_)); rintro e x ⟨rfl, rfl⟩)
      | (go_at_call 23; (with_reducible refine (cu _).mono ?_); rintro e v5 ⟨rfl, hw⟩; have hp6 := kept hp5 hw; have hh6 := kept hh5 hw; have hr6 := kept hr5 hw; have ht6 := kept ht5 hw; have hB6 := hB5.trans (hw.mono hB5.size); have K6 := six13 hp6 hh6 ht6; clear hw; have hp7 := laid (.cells #[.int .i64 Pw, .int .i64 Mu] 2) hp6; have hh7 := laid (.cells #[.int .i64 Pw, .int .i64 Mu] 2) hh6; have hr7 := laid (.cells #[.int .i64 Pw, .int .i64 Mu] 2) hr6; have ht7 := laid (.cells #[.int .i64 Pw, .int .i64 Mu] 2) ht6; have hB7 := hB6.alloc hB6.size (.cells #[.int .i64 Pw, .int .i64 Mu] 2); have K7 := six13 hp7 hh7 ht7)
      | (go_at_call 22; refine (ct _ _ _ (two_new _ _ _ _).1 (two_new _ _ _ _).2).mono ?_; rintro e x ⟨rfl, rfl⟩; have ⟨q0, q1, q2, q3, q4⟩ := five_in hr7; have fz := five_thaw hr7; have n5 := new5 (.int .i64 Mn) (.int .i64 dl) (.int .i64 di) (.int .i64 at_) (.int .i64 total) hr7; have B5 := below5 (.int .i64 Mn) (.int .i64 dl) (.int .i64 di) (.int .i64 at_) (.int .i64 total) hB7 (show w.heap.size ≤ w.heap.size + 1 + 1 by omega); have K8 := six13 (far5 (.int .i64 Mn) (.int .i64 dl) (.int .i64 di) (.int .i64 at_) (.int .i64 total) (show w.heap.size ≠ w.heap.size + 1 + 1 by omega) hp7) (far5 (.int .i64 Mn) (.int .i64 dl) (.int .i64 di) (.int .i64 at_) (.int .i64 total) (show w.heap.size + 1 ≠ w.heap.size + 1 + 1 by omega) hh7) (far5 (.int .i64 Mn) (.int .i64 dl) (.int .i64 di) (.int .i64 at_) (.int .i64 total) (show bt ≠ w.heap.size + 1 + 1 by omega) ht7)))
    all_goals (go_wp2_with fail; go_meet; exact ⟨rfl, n5, B5⟩)
  case rest =>
    obtain ⟨rfl, hn5, hB5⟩ := hcut
    obtain ⟨f0, f1, f2, f3, f4⟩ := five_in hn5
    go_wp2_with fail
    refine bodyPost_ret (v := .tuple #[.agg #[.int .i64 Mn, .int .i64 dl, .int .i64 di, .int .i64 at_, .int .i64 total], .int .i64 0]) ?_ rfl ⟨rfl, hB5⟩
    simp [results, Tryz.results6, go_sem, f0, f1, f2, f3, f4]
theorem smake_any (p : Pm) (t : p.Typed) (own : Int) (o0 : -9223372036854775808 ≤ own ∧ own ≤ 9223372036854775807) (h : Hd) (th : h.Typed) (back : Int) (b0 : 0 ≤ back ∧ back < 18446744073709551616) (at_ total : Int) (a0 : -9223372036854775808 ≤ at_ ∧ at_ ≤ 9223372036854775807) (t0 : -9223372036854775808 ≤ total ∧ total ≤ 9223372036854775807) (w : World) :
    Calls Tryz.prog 6 #[p.val, .int .i64 own, h.val, .int .u64 back, .int .i64 at_, .int .i64 total] w fun e w' => e = .returned (.tuple #[(makeS p own h back at_ total).val, .int .i64 (makeE h back at_)]) ∧ Below w.heap.size w w' := by
  by_cases g : 0 ≤ at_ ∧ at_ ≤ 4611686018427387904
  · by_cases f : dfI back h.org < 0 ∨ dfI h.tx h.rcv < 0
    · have e : makeE h back at_ = 1 := by unfold makeE; exact if_pos (by omega)
      unfold makeS
      rw [e]
      exact smake_back p own h th back b0 at_ total g f w
    · have e : makeE h back at_ = 0 := by unfold makeE; exact if_neg (by omega)
      unfold makeS
      rw [e]
      exact smake_good p t own o0 h th back b0 at_ total g f w
  · have e : makeE h back at_ = 1 := by unfold makeE; exact if_pos (by omega)
    unfold makeS
    rw [e]
    exact smake_raw p own h back at_ total g w
end Go.Proofs.YtlpcoaohgcgkiaaGreat.W
