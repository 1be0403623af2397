/- ReachSlow: for every state, time and draw Slow makes no wait shorter. No condition. -/
import Derived.Test.YtfangllkfcmefaaRcY
import Derived.Test.YtfangllkfcmefaaRcZ
import Derived.Test.YtfangllkfcmefaaRowS
import Derived.WalkKit
import Derived.WalkSpells
import Derived.WalkLawsBesides
import Derived.Lib.Hide
import Derived.Handy
import Derived.ProofKit
import Derived.OpenShut
import Derived.ShutString
import Derived.ChangeOld
import Derived.Below
namespace Go.Proofs.Ytfangllkfcmefaa.ReachSlow
open Go.Proofs.Ytfangllkfcmefaa.W
open Go.ChangeShapes Go.WideShapes Go.ChangeAt Go.RowKit
open Go.ChangeMaps (open_string shut_string)
set_option linter.unusedVariables false
theorem own : ownKnob Try.prog.godebug = none := by kernel_rfl
theorem laidOut : laidOutB Try.prog = true := by kernel_rfl
open Go.Sort
set_option linter.unusedSimpArgs false
set_option maxRecDepth 100000 in
set_option maxHeartbeats 12800000 in
theorem walk (s : Rs) (a1 a2 : Int) (w : World) (st : s.Typed) (w1 : (Lit.int .u32 a1).wf = true) (w2 : (Lit.int .u32 a2).wf = true) :
    Calls Try.prog 3 #[s.val, .int .u32 a1, .int .u32 a2] w fun e w' => e = .returned (.bool true) ∧ Below w.heap.size w w' := by
  have b1 := u32_bounds w1
  have b2 := u32_bounds w2
  have c1 := std11_any
  have c3 := shown11_any
  have H := std_params
  generalize chkP stdC = p at *
  have c4 := hslow_any p H.typed s st
  have c5 := hsent_any p H.typed s st a1 a2 (by omega) (by omega) b2.1 b2.2
  have c6 := hsent_any p H.typed (slowS p s) (slow_typed H.typed st) a1 a2 (by omega) (by omega) b2.1 b2.2
  unfold Pm.val at *
  rw [H.minpoll, H.maxpoll, H.burst] at c1 c4 c5 c6
  by_cases t0 : s.host < 6
  · clear c4 c5 c6 H st
    unfold Rs.val at *
    have hA0 : Below w.heap.size w (w.alloc (.cells #[.int .u8 s.reg, .int .i64 s.host, .int .i64 s.peer, .int .i64 s.burst, .int .i64 s.next] 23)) := (Below.refl _ _).alloc (Nat.le_refl _) _
    have hs0 := heap_alloc_new w (.cells #[.int .u8 s.reg, .int .i64 s.host, .int .i64 s.peer, .int .i64 s.burst, .int .i64 s.next] 23)
    go_enter Try.func3, Try.ntmps3
    go_wp2_with fail
    generalize w.alloc (.cells #[.int .u8 s.reg, .int .i64 s.host, .int .i64 s.peer, .int .i64 s.burst, .int .i64 s.next] 23) = u0 at *
    (with_reducible refine (c1 _).mono ?_)
    rintro e u1 ⟨rfl, hB1⟩
    have hq1 := hA0.trans (hB1.mono hA0.size)
    have hq2 := hq1.alloc hq1.size (.cells #[.int .i64 p.step, .int .i64 p.watch, .int .i64 p.panic, .int .i64 p.maxrate, .int .i64 p.phi, .int .i64 p.maxdist, .int .i64 p.gate, .int .i64 6, .int .i64 10, .int .i64 0, .int .i64 p.minsane, .int .i64 p.minleft] 26)
    have hs2 := laid (.cells #[.int .i64 p.step, .int .i64 p.watch, .int .i64 p.panic, .int .i64 p.maxrate, .int .i64 p.phi, .int .i64 p.maxdist, .int .i64 p.gate, .int .i64 6, .int .i64 10, .int .i64 0, .int .i64 p.minsane, .int .i64 p.minleft] 26) (kept hs0 hB1)
    have hp2 := heap_alloc_new u1 (.cells #[.int .i64 p.step, .int .i64 p.watch, .int .i64 p.panic, .int .i64 p.maxrate, .int .i64 p.phi, .int .i64 p.maxdist, .int .i64 p.gate, .int .i64 6, .int .i64 10, .int .i64 0, .int .i64 p.minsane, .int .i64 p.minleft] 26)
    go_upto_region 2 with fail
    generalize u1.alloc (.cells #[.int .i64 p.step, .int .i64 p.watch, .int .i64 p.panic, .int .i64 p.maxrate, .int .i64 p.phi, .int .i64 p.maxdist, .int .i64 p.gate, .int .i64 6, .int .i64 10, .int .i64 0, .int .i64 p.minsane, .int .i64 p.minleft] 26) = u2 at *
    go_wp2_with fail
    (with_reducible refine (c3 _).mono ?_)
    rintro e u3 ⟨rfl, hB3⟩
    have hq3 := hq2.trans (hB3.mono hq2.size)
    have hs3 := kept hs2 hB3
    have hp3 := kept hp2 hB3
    clear hA0 hs0 hB1 hq1 hq2 hs2 hp2 hB3
    obtain ⟨s0, s1, s2, s3, s4⟩ := five_in hs3
    obtain ⟨q0, q1, q2, q3, q4, q5, q6, q7, q8, q9, q10, q11⟩ := twelve_at hp3
    go_wp2_with fail
    (with_reducible refine (c3 _).mono ?_)
    rintro e u4 ⟨rfl, hB4⟩
    have hq4 := hq3.trans (hB4.mono hq3.size)
    go_wp2_with fail
    go_ret
    exact ⟨rfl, hq4⟩
  · by_cases t1 : 10 < s.host
    · clear c4 c5 c6 H st
      unfold Rs.val at *
      have hA0 : Below w.heap.size w (w.alloc (.cells #[.int .u8 s.reg, .int .i64 s.host, .int .i64 s.peer, .int .i64 s.burst, .int .i64 s.next] 23)) := (Below.refl _ _).alloc (Nat.le_refl _) _
      have hs0 := heap_alloc_new w (.cells #[.int .u8 s.reg, .int .i64 s.host, .int .i64 s.peer, .int .i64 s.burst, .int .i64 s.next] 23)
      go_enter Try.func3, Try.ntmps3
      go_wp2_with fail
      generalize w.alloc (.cells #[.int .u8 s.reg, .int .i64 s.host, .int .i64 s.peer, .int .i64 s.burst, .int .i64 s.next] 23) = u0 at *
      (with_reducible refine (c1 _).mono ?_)
      rintro e u1 ⟨rfl, hB1⟩
      have hq1 := hA0.trans (hB1.mono hA0.size)
      have hq2 := hq1.alloc hq1.size (.cells #[.int .i64 p.step, .int .i64 p.watch, .int .i64 p.panic, .int .i64 p.maxrate, .int .i64 p.phi, .int .i64 p.maxdist, .int .i64 p.gate, .int .i64 6, .int .i64 10, .int .i64 0, .int .i64 p.minsane, .int .i64 p.minleft] 26)
      have hs2 := laid (.cells #[.int .i64 p.step, .int .i64 p.watch, .int .i64 p.panic, .int .i64 p.maxrate, .int .i64 p.phi, .int .i64 p.maxdist, .int .i64 p.gate, .int .i64 6, .int .i64 10, .int .i64 0, .int .i64 p.minsane, .int .i64 p.minleft] 26) (kept hs0 hB1)
      have hp2 := heap_alloc_new u1 (.cells #[.int .i64 p.step, .int .i64 p.watch, .int .i64 p.panic, .int .i64 p.maxrate, .int .i64 p.phi, .int .i64 p.maxdist, .int .i64 p.gate, .int .i64 6, .int .i64 10, .int .i64 0, .int .i64 p.minsane, .int .i64 p.minleft] 26)
      go_upto_region 2 with fail
      generalize u1.alloc (.cells #[.int .i64 p.step, .int .i64 p.watch, .int .i64 p.panic, .int .i64 p.maxrate, .int .i64 p.phi, .int .i64 p.maxdist, .int .i64 p.gate, .int .i64 6, .int .i64 10, .int .i64 0, .int .i64 p.minsane, .int .i64 p.minleft] 26) = u2 at *
      go_wp2_with fail
      (with_reducible refine (c3 _).mono ?_)
      rintro e u3 ⟨rfl, hB3⟩
      have hq3 := hq2.trans (hB3.mono hq2.size)
      have hs3 := kept hs2 hB3
      have hp3 := kept hp2 hB3
      clear hA0 hs0 hB1 hq1 hq2 hs2 hp2 hB3
      obtain ⟨s0, s1, s2, s3, s4⟩ := five_in hs3
      obtain ⟨q0, q1, q2, q3, q4, q5, q6, q7, q8, q9, q10, q11⟩ := twelve_at hp3
      go_wp2_with fail
      (with_reducible refine (c3 _).mono ?_)
      rintro e u4 ⟨rfl, hB4⟩
      have hq4 := hq3.trans (hB4.mono hq3.size)
      go_wp2_with fail
      go_ret
      exact ⟨rfl, hq4⟩
    · by_cases t2 : s.peer < 6
      · clear c4 c5 c6 H st
        unfold Rs.val at *
        have hA0 : Below w.heap.size w (w.alloc (.cells #[.int .u8 s.reg, .int .i64 s.host, .int .i64 s.peer, .int .i64 s.burst, .int .i64 s.next] 23)) := (Below.refl _ _).alloc (Nat.le_refl _) _
        have hs0 := heap_alloc_new w (.cells #[.int .u8 s.reg, .int .i64 s.host, .int .i64 s.peer, .int .i64 s.burst, .int .i64 s.next] 23)
        go_enter Try.func3, Try.ntmps3
        go_wp2_with fail
        generalize w.alloc (.cells #[.int .u8 s.reg, .int .i64 s.host, .int .i64 s.peer, .int .i64 s.burst, .int .i64 s.next] 23) = u0 at *
        (with_reducible refine (c1 _).mono ?_)
        rintro e u1 ⟨rfl, hB1⟩
        have hq1 := hA0.trans (hB1.mono hA0.size)
        have hq2 := hq1.alloc hq1.size (.cells #[.int .i64 p.step, .int .i64 p.watch, .int .i64 p.panic, .int .i64 p.maxrate, .int .i64 p.phi, .int .i64 p.maxdist, .int .i64 p.gate, .int .i64 6, .int .i64 10, .int .i64 0, .int .i64 p.minsane, .int .i64 p.minleft] 26)
        have hs2 := laid (.cells #[.int .i64 p.step, .int .i64 p.watch, .int .i64 p.panic, .int .i64 p.maxrate, .int .i64 p.phi, .int .i64 p.maxdist, .int .i64 p.gate, .int .i64 6, .int .i64 10, .int .i64 0, .int .i64 p.minsane, .int .i64 p.minleft] 26) (kept hs0 hB1)
        have hp2 := heap_alloc_new u1 (.cells #[.int .i64 p.step, .int .i64 p.watch, .int .i64 p.panic, .int .i64 p.maxrate, .int .i64 p.phi, .int .i64 p.maxdist, .int .i64 p.gate, .int .i64 6, .int .i64 10, .int .i64 0, .int .i64 p.minsane, .int .i64 p.minleft] 26)
        go_upto_region 2 with fail
        generalize u1.alloc (.cells #[.int .i64 p.step, .int .i64 p.watch, .int .i64 p.panic, .int .i64 p.maxrate, .int .i64 p.phi, .int .i64 p.maxdist, .int .i64 p.gate, .int .i64 6, .int .i64 10, .int .i64 0, .int .i64 p.minsane, .int .i64 p.minleft] 26) = u2 at *
        go_wp2_with fail
        (with_reducible refine (c3 _).mono ?_)
        rintro e u3 ⟨rfl, hB3⟩
        have hq3 := hq2.trans (hB3.mono hq2.size)
        have hs3 := kept hs2 hB3
        have hp3 := kept hp2 hB3
        clear hA0 hs0 hB1 hq1 hq2 hs2 hp2 hB3
        obtain ⟨s0, s1, s2, s3, s4⟩ := five_in hs3
        obtain ⟨q0, q1, q2, q3, q4, q5, q6, q7, q8, q9, q10, q11⟩ := twelve_at hp3
        go_wp2_with fail
        (with_reducible refine (c3 _).mono ?_)
        rintro e u4 ⟨rfl, hB4⟩
        have hq4 := hq3.trans (hB4.mono hq3.size)
        go_wp2_with fail
        go_ret
        exact ⟨rfl, hq4⟩
      · by_cases t3 : 10 < s.peer
        · clear c4 c5 c6 H st
          unfold Rs.val at *
          have hA0 : Below w.heap.size w (w.alloc (.cells #[.int .u8 s.reg, .int .i64 s.host, .int .i64 s.peer, .int .i64 s.burst, .int .i64 s.next] 23)) := (Below.refl _ _).alloc (Nat.le_refl _) _
          have hs0 := heap_alloc_new w (.cells #[.int .u8 s.reg, .int .i64 s.host, .int .i64 s.peer, .int .i64 s.burst, .int .i64 s.next] 23)
          go_enter Try.func3, Try.ntmps3
          go_wp2_with fail
          generalize w.alloc (.cells #[.int .u8 s.reg, .int .i64 s.host, .int .i64 s.peer, .int .i64 s.burst, .int .i64 s.next] 23) = u0 at *
          (with_reducible refine (c1 _).mono ?_)
          rintro e u1 ⟨rfl, hB1⟩
          have hq1 := hA0.trans (hB1.mono hA0.size)
          have hq2 := hq1.alloc hq1.size (.cells #[.int .i64 p.step, .int .i64 p.watch, .int .i64 p.panic, .int .i64 p.maxrate, .int .i64 p.phi, .int .i64 p.maxdist, .int .i64 p.gate, .int .i64 6, .int .i64 10, .int .i64 0, .int .i64 p.minsane, .int .i64 p.minleft] 26)
          have hs2 := laid (.cells #[.int .i64 p.step, .int .i64 p.watch, .int .i64 p.panic, .int .i64 p.maxrate, .int .i64 p.phi, .int .i64 p.maxdist, .int .i64 p.gate, .int .i64 6, .int .i64 10, .int .i64 0, .int .i64 p.minsane, .int .i64 p.minleft] 26) (kept hs0 hB1)
          have hp2 := heap_alloc_new u1 (.cells #[.int .i64 p.step, .int .i64 p.watch, .int .i64 p.panic, .int .i64 p.maxrate, .int .i64 p.phi, .int .i64 p.maxdist, .int .i64 p.gate, .int .i64 6, .int .i64 10, .int .i64 0, .int .i64 p.minsane, .int .i64 p.minleft] 26)
          go_upto_region 2 with fail
          generalize u1.alloc (.cells #[.int .i64 p.step, .int .i64 p.watch, .int .i64 p.panic, .int .i64 p.maxrate, .int .i64 p.phi, .int .i64 p.maxdist, .int .i64 p.gate, .int .i64 6, .int .i64 10, .int .i64 0, .int .i64 p.minsane, .int .i64 p.minleft] 26) = u2 at *
          go_wp2_with fail
          (with_reducible refine (c3 _).mono ?_)
          rintro e u3 ⟨rfl, hB3⟩
          have hq3 := hq2.trans (hB3.mono hq2.size)
          have hs3 := kept hs2 hB3
          have hp3 := kept hp2 hB3
          clear hA0 hs0 hB1 hq1 hq2 hs2 hp2 hB3
          obtain ⟨s0, s1, s2, s3, s4⟩ := five_in hs3
          obtain ⟨q0, q1, q2, q3, q4, q5, q6, q7, q8, q9, q10, q11⟩ := twelve_at hp3
          go_wp2_with fail
          (with_reducible refine (c3 _).mono ?_)
          rintro e u4 ⟨rfl, hB4⟩
          have hq4 := hq3.trans (hB4.mono hq3.size)
          go_wp2_with fail
          go_ret
          exact ⟨rfl, hq4⟩
        · by_cases t4 : s.burst < 0
          · clear c4 c5 c6 H st
            unfold Rs.val at *
            have hA0 : Below w.heap.size w (w.alloc (.cells #[.int .u8 s.reg, .int .i64 s.host, .int .i64 s.peer, .int .i64 s.burst, .int .i64 s.next] 23)) := (Below.refl _ _).alloc (Nat.le_refl _) _
            have hs0 := heap_alloc_new w (.cells #[.int .u8 s.reg, .int .i64 s.host, .int .i64 s.peer, .int .i64 s.burst, .int .i64 s.next] 23)
            go_enter Try.func3, Try.ntmps3
            go_wp2_with fail
            generalize w.alloc (.cells #[.int .u8 s.reg, .int .i64 s.host, .int .i64 s.peer, .int .i64 s.burst, .int .i64 s.next] 23) = u0 at *
            (with_reducible refine (c1 _).mono ?_)
            rintro e u1 ⟨rfl, hB1⟩
            have hq1 := hA0.trans (hB1.mono hA0.size)
            have hq2 := hq1.alloc hq1.size (.cells #[.int .i64 p.step, .int .i64 p.watch, .int .i64 p.panic, .int .i64 p.maxrate, .int .i64 p.phi, .int .i64 p.maxdist, .int .i64 p.gate, .int .i64 6, .int .i64 10, .int .i64 0, .int .i64 p.minsane, .int .i64 p.minleft] 26)
            have hs2 := laid (.cells #[.int .i64 p.step, .int .i64 p.watch, .int .i64 p.panic, .int .i64 p.maxrate, .int .i64 p.phi, .int .i64 p.maxdist, .int .i64 p.gate, .int .i64 6, .int .i64 10, .int .i64 0, .int .i64 p.minsane, .int .i64 p.minleft] 26) (kept hs0 hB1)
            have hp2 := heap_alloc_new u1 (.cells #[.int .i64 p.step, .int .i64 p.watch, .int .i64 p.panic, .int .i64 p.maxrate, .int .i64 p.phi, .int .i64 p.maxdist, .int .i64 p.gate, .int .i64 6, .int .i64 10, .int .i64 0, .int .i64 p.minsane, .int .i64 p.minleft] 26)
            go_upto_region 2 with fail
            generalize u1.alloc (.cells #[.int .i64 p.step, .int .i64 p.watch, .int .i64 p.panic, .int .i64 p.maxrate, .int .i64 p.phi, .int .i64 p.maxdist, .int .i64 p.gate, .int .i64 6, .int .i64 10, .int .i64 0, .int .i64 p.minsane, .int .i64 p.minleft] 26) = u2 at *
            go_wp2_with fail
            (with_reducible refine (c3 _).mono ?_)
            rintro e u3 ⟨rfl, hB3⟩
            have hq3 := hq2.trans (hB3.mono hq2.size)
            have hs3 := kept hs2 hB3
            have hp3 := kept hp2 hB3
            clear hA0 hs0 hB1 hq1 hq2 hs2 hp2 hB3
            obtain ⟨s0, s1, s2, s3, s4⟩ := five_in hs3
            obtain ⟨q0, q1, q2, q3, q4, q5, q6, q7, q8, q9, q10, q11⟩ := twelve_at hp3
            go_wp2_with fail
            (with_reducible refine (c3 _).mono ?_)
            rintro e u4 ⟨rfl, hB4⟩
            have hq4 := hq3.trans (hB4.mono hq3.size)
            go_wp2_with fail
            go_ret
            exact ⟨rfl, hq4⟩
          · by_cases t5 : 8 < s.burst
            · clear c4 c5 c6 H st
              unfold Rs.val at *
              have hA0 : Below w.heap.size w (w.alloc (.cells #[.int .u8 s.reg, .int .i64 s.host, .int .i64 s.peer, .int .i64 s.burst, .int .i64 s.next] 23)) := (Below.refl _ _).alloc (Nat.le_refl _) _
              have hs0 := heap_alloc_new w (.cells #[.int .u8 s.reg, .int .i64 s.host, .int .i64 s.peer, .int .i64 s.burst, .int .i64 s.next] 23)
              go_enter Try.func3, Try.ntmps3
              go_wp2_with fail
              generalize w.alloc (.cells #[.int .u8 s.reg, .int .i64 s.host, .int .i64 s.peer, .int .i64 s.burst, .int .i64 s.next] 23) = u0 at *
              (with_reducible refine (c1 _).mono ?_)
              rintro e u1 ⟨rfl, hB1⟩
              have hq1 := hA0.trans (hB1.mono hA0.size)
              have hq2 := hq1.alloc hq1.size (.cells #[.int .i64 p.step, .int .i64 p.watch, .int .i64 p.panic, .int .i64 p.maxrate, .int .i64 p.phi, .int .i64 p.maxdist, .int .i64 p.gate, .int .i64 6, .int .i64 10, .int .i64 0, .int .i64 p.minsane, .int .i64 p.minleft] 26)
              have hs2 := laid (.cells #[.int .i64 p.step, .int .i64 p.watch, .int .i64 p.panic, .int .i64 p.maxrate, .int .i64 p.phi, .int .i64 p.maxdist, .int .i64 p.gate, .int .i64 6, .int .i64 10, .int .i64 0, .int .i64 p.minsane, .int .i64 p.minleft] 26) (kept hs0 hB1)
              have hp2 := heap_alloc_new u1 (.cells #[.int .i64 p.step, .int .i64 p.watch, .int .i64 p.panic, .int .i64 p.maxrate, .int .i64 p.phi, .int .i64 p.maxdist, .int .i64 p.gate, .int .i64 6, .int .i64 10, .int .i64 0, .int .i64 p.minsane, .int .i64 p.minleft] 26)
              go_upto_region 2 with fail
              generalize u1.alloc (.cells #[.int .i64 p.step, .int .i64 p.watch, .int .i64 p.panic, .int .i64 p.maxrate, .int .i64 p.phi, .int .i64 p.maxdist, .int .i64 p.gate, .int .i64 6, .int .i64 10, .int .i64 0, .int .i64 p.minsane, .int .i64 p.minleft] 26) = u2 at *
              go_wp2_with fail
              (with_reducible refine (c3 _).mono ?_)
              rintro e u3 ⟨rfl, hB3⟩
              have hq3 := hq2.trans (hB3.mono hq2.size)
              have hs3 := kept hs2 hB3
              have hp3 := kept hp2 hB3
              clear hA0 hs0 hB1 hq1 hq2 hs2 hp2 hB3
              obtain ⟨s0, s1, s2, s3, s4⟩ := five_in hs3
              obtain ⟨q0, q1, q2, q3, q4, q5, q6, q7, q8, q9, q10, q11⟩ := twelve_at hp3
              go_wp2_with fail
              (with_reducible refine (c3 _).mono ?_)
              rintro e u4 ⟨rfl, hB4⟩
              have hq4 := hq3.trans (hB4.mono hq3.size)
              go_wp2_with fail
              go_ret
              exact ⟨rfl, hq4⟩
            · obtain ⟨x1, x2, x3, x4, x5⟩ := slow_waits H st (by omega) (by omega) (by omega) (by omega) (now := a1) (draw := a2) b1.1 b1.2 b2.1 b2.2
              clear st H
              generalize sentS p (slowS p s) a1 a2 = b at *
              generalize sentS p s a1 a2 = a at *
              generalize slowS p s = z at *
              unfold Rs.val at *
              rw [x2, x5] at c4 c6
              clear x2 x5
              have hA0 : Below w.heap.size w (w.alloc (.cells #[.int .u8 s.reg, .int .i64 s.host, .int .i64 s.peer, .int .i64 s.burst, .int .i64 s.next] 23)) := (Below.refl _ _).alloc (Nat.le_refl _) _
              have hs0 := heap_alloc_new w (.cells #[.int .u8 s.reg, .int .i64 s.host, .int .i64 s.peer, .int .i64 s.burst, .int .i64 s.next] 23)
              go_enter Try.func3, Try.ntmps3
              go_wp2_with fail
              generalize w.alloc (.cells #[.int .u8 s.reg, .int .i64 s.host, .int .i64 s.peer, .int .i64 s.burst, .int .i64 s.next] 23) = u0 at *
              (with_reducible refine (c1 _).mono ?_)
              rintro e u1 ⟨rfl, hB1⟩
              have hq1 := hA0.trans (hB1.mono hA0.size)
              have hq2 := hq1.alloc hq1.size (.cells #[.int .i64 p.step, .int .i64 p.watch, .int .i64 p.panic, .int .i64 p.maxrate, .int .i64 p.phi, .int .i64 p.maxdist, .int .i64 p.gate, .int .i64 6, .int .i64 10, .int .i64 0, .int .i64 p.minsane, .int .i64 p.minleft] 26)
              have hs2 := laid (.cells #[.int .i64 p.step, .int .i64 p.watch, .int .i64 p.panic, .int .i64 p.maxrate, .int .i64 p.phi, .int .i64 p.maxdist, .int .i64 p.gate, .int .i64 6, .int .i64 10, .int .i64 0, .int .i64 p.minsane, .int .i64 p.minleft] 26) (kept hs0 hB1)
              have hp2 := heap_alloc_new u1 (.cells #[.int .i64 p.step, .int .i64 p.watch, .int .i64 p.panic, .int .i64 p.maxrate, .int .i64 p.phi, .int .i64 p.maxdist, .int .i64 p.gate, .int .i64 6, .int .i64 10, .int .i64 0, .int .i64 p.minsane, .int .i64 p.minleft] 26)
              go_upto_region 2 with fail
              generalize u1.alloc (.cells #[.int .i64 p.step, .int .i64 p.watch, .int .i64 p.panic, .int .i64 p.maxrate, .int .i64 p.phi, .int .i64 p.maxdist, .int .i64 p.gate, .int .i64 6, .int .i64 10, .int .i64 0, .int .i64 p.minsane, .int .i64 p.minleft] 26) = u2 at *
              go_wp2_with fail
              (with_reducible refine (c3 _).mono ?_)
              rintro e u3 ⟨rfl, hB3⟩
              have hq3 := hq2.trans (hB3.mono hq2.size)
              have hs3 := kept hs2 hB3
              have hp3 := kept hp2 hB3
              clear hA0 hs0 hB1 hq1 hq2 hs2 hp2 hB3
              obtain ⟨s0, s1, s2, s3, s4⟩ := five_in hs3
              obtain ⟨q0, q1, q2, q3, q4, q5, q6, q7, q8, q9, q10, q11⟩ := twelve_at hp3
              go_wp2_with fail
              (with_reducible refine (c4 _).mono ?_)
              rintro e u4 ⟨rfl, hB4⟩
              have hq4 := hq3.trans (hB4.mono hq3.size)
              have hq5 := hq4.alloc hq4.size (.cells #[.int .u8 s.reg, .int .i64 z.host, .int .i64 z.peer, .int .i64 0, .int .i64 z.next] 23)
              have hs5 := laid (.cells #[.int .u8 s.reg, .int .i64 z.host, .int .i64 z.peer, .int .i64 0, .int .i64 z.next] 23) (kept hs3 hB4)
              have hp5 := laid (.cells #[.int .u8 s.reg, .int .i64 z.host, .int .i64 z.peer, .int .i64 0, .int .i64 z.next] 23) (kept hp3 hB4)
              have hz5 := heap_alloc_new u4 (.cells #[.int .u8 s.reg, .int .i64 z.host, .int .i64 z.peer, .int .i64 0, .int .i64 z.next] 23)
              clear hq3 hs3 hp3 hB4 hq4 s0 s1 s2 s3 s4 q0 q1 q2 q3 q4 q5 q6 q7 q8 q9 q10 q11
              go_upto_region 5 with fail
              generalize u4.alloc (.cells #[.int .u8 s.reg, .int .i64 z.host, .int .i64 z.peer, .int .i64 0, .int .i64 z.next] 23) = u5 at *
              obtain ⟨s0, s1, s2, s3, s4⟩ := five_in hs5
              obtain ⟨q0, q1, q2, q3, q4, q5, q6, q7, q8, q9, q10, q11⟩ := twelve_at hp5
              go_wp2_with fail
              (with_reducible refine (c5 _).mono ?_)
              rintro e u6 ⟨rfl, hB6⟩
              have hq6 := hq5.trans (hB6.mono hq5.size)
              have hq7 := hq6.alloc hq6.size (.cells #[.int .u8 a.reg, .int .i64 a.host, .int .i64 a.peer, .int .i64 a.burst, .int .i64 a.next] 23)
              have hs7 := laid (.cells #[.int .u8 a.reg, .int .i64 a.host, .int .i64 a.peer, .int .i64 a.burst, .int .i64 a.next] 23) (kept hs5 hB6)
              have hp7 := laid (.cells #[.int .u8 a.reg, .int .i64 a.host, .int .i64 a.peer, .int .i64 a.burst, .int .i64 a.next] 23) (kept hp5 hB6)
              have hz7 := laid (.cells #[.int .u8 a.reg, .int .i64 a.host, .int .i64 a.peer, .int .i64 a.burst, .int .i64 a.next] 23) (kept hz5 hB6)
              have ha7 := heap_alloc_new u6 (.cells #[.int .u8 a.reg, .int .i64 a.host, .int .i64 a.peer, .int .i64 a.burst, .int .i64 a.next] 23)
              clear hq5 hs5 hp5 hz5 hB6 hq6 s0 s1 s2 s3 s4 q0 q1 q2 q3 q4 q5 q6 q7 q8 q9 q10 q11
              go_upto_region 6 with fail
              generalize u6.alloc (.cells #[.int .u8 a.reg, .int .i64 a.host, .int .i64 a.peer, .int .i64 a.burst, .int .i64 a.next] 23) = u7 at *
              obtain ⟨s0, s1, s2, s3, s4⟩ := five_in hz7
              obtain ⟨q0, q1, q2, q3, q4, q5, q6, q7, q8, q9, q10, q11⟩ := twelve_at hp7
              go_wp2_with fail
              (with_reducible refine (c6 _).mono ?_)
              rintro e u8 ⟨rfl, hB8⟩
              have hq8 := hq7.trans (hB8.mono hq7.size)
              have hq9 := hq8.alloc hq8.size (.cells #[.int .u8 b.reg, .int .i64 b.host, .int .i64 b.peer, .int .i64 b.burst, .int .i64 b.next] 23)
              have hs9 := laid (.cells #[.int .u8 b.reg, .int .i64 b.host, .int .i64 b.peer, .int .i64 b.burst, .int .i64 b.next] 23) (kept hs7 hB8)
              have hz9 := laid (.cells #[.int .u8 b.reg, .int .i64 b.host, .int .i64 b.peer, .int .i64 b.burst, .int .i64 b.next] 23) (kept hz7 hB8)
              have ha9 := laid (.cells #[.int .u8 b.reg, .int .i64 b.host, .int .i64 b.peer, .int .i64 b.burst, .int .i64 b.next] 23) (kept ha7 hB8)
              have hb9 := heap_alloc_new u8 (.cells #[.int .u8 b.reg, .int .i64 b.host, .int .i64 b.peer, .int .i64 b.burst, .int .i64 b.next] 23)
              clear hq7 hs7 hp7 hz7 ha7 hB8 hq8 s0 s1 s2 s3 s4 q0 q1 q2 q3 q4 q5 q6 q7 q8 q9 q10 q11
              go_upto_region 7 with fail
              generalize u8.alloc (.cells #[.int .u8 b.reg, .int .i64 b.host, .int .i64 b.peer, .int .i64 b.burst, .int .i64 b.next] 23) = u9 at *
              obtain ⟨s0, s1, s2, s3, s4⟩ := five_in hs9
              obtain ⟨z0, z1, z2, z3, z4⟩ := five_in hz9
              obtain ⟨d0, d1, d2, d3, d4⟩ := five_in ha9
              obtain ⟨f0, f1, f2, f3, f4⟩ := five_in hb9
              go_wp2_with fail
              go_ret
              exact ⟨rfl, hq9⟩
set_option maxRecDepth 100000 in
theorem lifted (os : Os) (started : os.Started) (H : Type) (enc : TypeId × Value → H) :
    ReturnsInHanded {} Try.checked os 3 .any (Rows.reachSlowSpec.pre6 enc Try.prog Try.f3 Rows.reachSlowRow.domain false) (Rows.reachSlowSpec.post enc Try.prog Try.f3 false true false false) := by
  refine returnsInHanded_of_change (C := Try.checked) own started (by kernel_rfl) Try.func3
    (ChangeSpec.witness6 (enc := enc) (C := Try.checked) false ⟨#[], #[.agg #[.int .u8 0, .int .i64 0, .int .i64 0, .int .i64 0, .int .i64 0], .int .u32 0, .int .u32 0], []⟩ 8 (by kernel_rfl) (by kernel_rfl) (by kernel_rfl) (by kernel_rfl)) ?_
  intro W base args ds gs before hval0 hW hcnd _
  have hval : ∀ (j : Nat) t v, Try.f3.params[j]? = some t → args[j]? = some v → Value.okWide Try.prog W .any base t v := hval0
  have hW' := hW
  obtain ⟨p, q, hA0, hV, rfl, hfz, hnd⟩ := hW
  have hA : DataW.TrodAll enc Try.prog W 0 (fun _ => true) true Try.f3.params.toList args.toList ds p := hA0
  rw [Try.params3] at hA hval
  obtain ⟨v0, vs0, d0, ds0, p0, q0, hargs, rfl, rfl, h0, r0⟩ := trodAll_cons hA
  obtain ⟨v1, vs1, d1, ds1, p1, q1, rfl, rfl, rfl, h1, r1⟩ := trodAll_cons r0
  obtain ⟨v2, vs2, d2, ds2, p2, q2, rfl, rfl, rfl, h2, r2⟩ := trodAll_cons r1
  obtain ⟨rfl, rfl, rfl⟩ := trodAll_nil r2
  obtain rfl : args = #[v0, v1, v2] := by cases args; simp_all
  obtain ⟨rfl, rfl⟩ := trodVars_none hV
  have k0 := h0
  have lt0 : ∀ x ∈ p0, x.block < W.heap.size := by obtain ⟨m, hm⟩ := k0; exact DataW.trod_lt m _ _ _ hm
  obtain ⟨a0, rfl, w0⟩ := open_rs (hval 0 23 v0 rfl rfl) h0
  obtain ⟨a1, rfl, rfl, rfl, w1⟩ := open_int Try.underlying24 (hval 1 24 v1 rfl rfl) h1
  obtain ⟨a2, rfl, rfl, rfl, w2⟩ := open_int Try.underlying24 (hval 2 24 v2 rfl rfl) h2
  clear hA0 hval0
  refine (walk a0 a1 a2 W w0 w1 w2).mono fun e W' ⟨he, bel⟩ => ?_
  subst he
  exact ⟨_, rfl, _, _, _, [], _, [], hW', trodAll_mk1 (shut_bool Try.underlying4 _), (trodAll_cons_mk (Below.trod laidOut (by kernel_rfl) (of_decide_eq_true (by kernel_rfl)) k0 bel lt0) (trodAll_cons_mk (shut_int Try.underlying24 w1) (trodAll_cons_mk (shut_int Try.underlying24 w2) trodAll_mk0))), rfl, bel.frame _, fun h => by cases h⟩

theorem over : Rows.reachSlowRow.holds Try.pinned (OpenSpec.ofChange Rows.reachSlowSpec) :=
  OpenClaim.holds_of_wide 3 Try.f3 rfl rfl rfl rfl rfl rfl rfl ⟨rfl, rfl, rfl, rfl, rfl⟩ rfl rfl rfl rfl rfl (by kernel_rfl) Try.func3 (by kernel_rfl)
    (of_decide_eq_true (by kernel_rfl)) (by unfold Func.isWrapper; first | (rw [if_pos (by decide +kernel)]; kernel_rfl) | (rw [if_neg (by decide +kernel)]; exact ⟨rfl, rfl⟩))
    (fun os started H enc _ => lifted os started H enc)

theorem proved : Rows.ReachSlowSaid := over
end Go.Proofs.Ytfangllkfcmefaa.ReachSlow
