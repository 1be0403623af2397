/- ReachWaits: for every pair of exponents, burst, time and draw the wait is the poll's and less than a sixteenth of it more; two seconds in a burst. No condition. -/
import Derived.Test.YtfangllkfcmefaaGreatRcY
import Derived.Test.YtfangllkfcmefaaGreatRowS
import Derived.Test.YtfangllkfcmefaaGreatFixF
import Derived.WalkKit
import Derived.WalkSpells
import Derived.WalkLawsBesides
import Derived.Lib.Hide
import Derived.Handy
import Derived.ProofKit
import Derived.OpenShut
import Derived.ShutString
import Derived.ChangeOld
import Derived.Below
namespace Go.Proofs.YtfangllkfcmefaaGreat.ReachWaits
open Go.Proofs.YtfangllkfcmefaaGreat.W
open Go.ChangeShapes Go.WideShapes Go.ChangeAt Go.RowKit
open Go.ChangeMaps (open_string shut_string)
set_option linter.unusedVariables false
theorem own : ownKnob Tryz.prog.godebug = none := by kernel_rfl
theorem laidOut : laidOutB Tryz.prog = true := by kernel_rfl
open Go.Sort
set_option linter.unusedSimpArgs false
set_option maxRecDepth 100000 in
set_option maxHeartbeats 12800000 in
theorem walk (a0 a1 a2 a3 a4 : Int) (w : World) (w0 : (Lit.int .u8 a0).wf = true) (w1 : (Lit.int .u8 a1).wf = true) (w2 : (Lit.int .u8 a2).wf = true) (w3 : (Lit.int .u32 a3).wf = true) (w4 : (Lit.int .u32 a4).wf = true) :
    Calls Tryz.prog 3 #[.int .u8 a0, .int .u8 a1, .int .u8 a2, .int .u32 a3, .int .u32 a4] w fun e w' => e = .returned (.bool true) ∧ Below w.heap.size w w' := by
  have b0 := u8_bounds w0
  have b1 := u8_bounds w1
  have b2 := u8_bounds w2
  have b3 := u32_bounds w3
  have b4 := u32_bounds w4
  have c1 := std11_any
  have c3 := shown11_any
  have H := std_params
  generalize chkP stdC = p at *
  have st : Rs.Typed ⟨255, 6 + a0 % 5, 6 + a1 % 5, a2 % 9, 0⟩ := ⟨by show (0 : Int) ≤ 255 ∧ (255 : Int) ≤ 255; decide, by show _ ≤ 6 + a0 % 5 ∧ 6 + a0 % 5 ≤ _; omega, by show _ ≤ 6 + a1 % 5 ∧ 6 + a1 % 5 ≤ _; omega, by show _ ≤ a2 % 9 ∧ a2 % 9 ≤ _; omega, by show (-9223372036854775808 : Int) ≤ 0 ∧ (0 : Int) ≤ 9223372036854775807; decide⟩
  have c2 := hsent_any p H.typed _ st a3 a4 (by omega) (by omega) (by omega) (by omega)
  by_cases hbst : 0 < a2 % 9
  · have et : sentS p ⟨255, 6 + a0 % 5, 6 + a1 % 5, a2 % 9, 0⟩ a3 a4 = ⟨254, 6 + a0 % 5, 6 + a1 % 5, a2 % 9 - 1, a3 + 8589934592⟩ := by
      unfold sentS
      rw [if_pos hbst]
      show Rs.mk _ _ _ _ (addI a3 8589934592) = _
      unfold addI
      rw [cutI_in _ (by omega) (by omega)]
      rfl
    rw [et] at c2
    unfold Pm.val Rs.val at *
    dsimp only at c2
    clear et st H
    go_enter Tryz.func3, Tryz.ntmps3
    go_wp2_with fail
    (with_reducible refine (c1 _).mono ?_)
    rintro e v1 ⟨rfl, hB1⟩
    go_upto_region 3 with fail
    have hq1 := hB1.alloc hB1.size (.cells #[.int .i64 p.step, .int .i64 p.watch, .int .i64 p.panic, .int .i64 p.maxrate, .int .i64 p.phi, .int .i64 p.maxdist, .int .i64 p.gate, .int .i64 p.minpoll, .int .i64 p.maxpoll, .int .i64 p.burst, .int .i64 p.minsane, .int .i64 p.minleft] 24)
    have hq2 := hq1.alloc hq1.size (.cells #[.int .u8 255, .int .i64 (6 + a0 % 5), .int .i64 (6 + a1 % 5), .int .i64 (a2 % 9), .int .i64 0] 27)
    have hv2 := heap_alloc_new (v1.alloc (.cells #[.int .i64 p.step, .int .i64 p.watch, .int .i64 p.panic, .int .i64 p.maxrate, .int .i64 p.phi, .int .i64 p.maxdist, .int .i64 p.gate, .int .i64 p.minpoll, .int .i64 p.maxpoll, .int .i64 p.burst, .int .i64 p.minsane, .int .i64 p.minleft] 24)) (.cells #[.int .u8 255, .int .i64 (6 + a0 % 5), .int .i64 (6 + a1 % 5), .int .i64 (a2 % 9), .int .i64 0] 27)
    have hp2 := (Below.heap_alloc (v1.alloc (.cells #[.int .i64 p.step, .int .i64 p.watch, .int .i64 p.panic, .int .i64 p.maxrate, .int .i64 p.phi, .int .i64 p.maxdist, .int .i64 p.gate, .int .i64 p.minpoll, .int .i64 p.maxpoll, .int .i64 p.burst, .int .i64 p.minsane, .int .i64 p.minleft] 24)) (.cells #[.int .u8 255, .int .i64 (6 + a0 % 5), .int .i64 (6 + a1 % 5), .int .i64 (a2 % 9), .int .i64 0] 27) v1.heap.size (by simp)).trans (heap_alloc_new v1 (.cells #[.int .i64 p.step, .int .i64 p.watch, .int .i64 p.panic, .int .i64 p.maxrate, .int .i64 p.phi, .int .i64 p.maxdist, .int .i64 p.gate, .int .i64 p.minpoll, .int .i64 p.maxpoll, .int .i64 p.burst, .int .i64 p.minsane, .int .i64 p.minleft] 24))
    rw [World.size_alloc] at hv2
    generalize (v1.alloc (.cells #[.int .i64 p.step, .int .i64 p.watch, .int .i64 p.panic, .int .i64 p.maxrate, .int .i64 p.phi, .int .i64 p.maxdist, .int .i64 p.gate, .int .i64 p.minpoll, .int .i64 p.maxpoll, .int .i64 p.burst, .int .i64 p.minsane, .int .i64 p.minleft] 24)).alloc (.cells #[.int .u8 255, .int .i64 (6 + a0 % 5), .int .i64 (6 + a1 % 5), .int .i64 (a2 % 9), .int .i64 0] 27) = v3 at *
    obtain ⟨r0, r1, r2, r3, r4⟩ := five_in hv2
    obtain ⟨q0, q1, q2, q3, q4, q5, q6, q7, q8, q9, q10, q11⟩ := twelve_at hp2
    clear hB1 hq1
    go_wp2_with fail
    (with_reducible refine (c2 _).mono ?_)
    rintro e v4 ⟨rfl, hB4⟩
    have hq4 := hq2.trans (hB4.mono hq2.size)
    have hv4 := (hB4.block _ (Array.getElem?_eq_some_iff.1 hv2).1).trans hv2
    have hq5 := hq4.alloc hq4.size (.cells #[.int .u8 254, .int .i64 (6 + a0 % 5), .int .i64 (6 + a1 % 5), .int .i64 (a2 % 9 - 1), .int .i64 (a3 + 8589934592)] 27)
    have hs5 := heap_alloc_new v4 (.cells #[.int .u8 254, .int .i64 (6 + a0 % 5), .int .i64 (6 + a1 % 5), .int .i64 (a2 % 9 - 1), .int .i64 (a3 + 8589934592)] 27)
    have hv5 := (Below.heap_alloc v4 (.cells #[.int .u8 254, .int .i64 (6 + a0 % 5), .int .i64 (6 + a1 % 5), .int .i64 (a2 % 9 - 1), .int .i64 (a3 + 8589934592)] 27) _ (Array.getElem?_eq_some_iff.1 hv4).1).trans hv4
    clear r0 r1 r2 r3 r4 q0 q1 q2 q3 q4 q5 q6 q7 q8 q9 q10 q11 hq2 hB4 hv2 hp2 hq4 hv4
    go_upto_region 4 with fail
    generalize v4.alloc (.cells #[.int .u8 254, .int .i64 (6 + a0 % 5), .int .i64 (6 + a1 % 5), .int .i64 (a2 % 9 - 1), .int .i64 (a3 + 8589934592)] 27) = v5 at *
    obtain ⟨s0, s1, s2, s3, s4⟩ := five_in hs5
    go_wp2_with fail
    (with_reducible refine (c3 _).mono ?_)
    rintro e v6 ⟨rfl, hB6⟩
    have hB := hq5.trans (hB6.mono hq5.size)
    have hv6 := (hB6.block _ (Array.getElem?_eq_some_iff.1 hv5).1).trans hv5
    have hs6 := (hB6.block _ (Array.getElem?_eq_some_iff.1 hs5).1).trans hs5
    clear s0 s1 s2 s3 s4
    obtain ⟨s0, s1, s2, s3, s4⟩ := five_in hs6
    obtain ⟨r0, r1, r2, r3, r4⟩ := five_in hv6
    clear hq5 hB6 hv5 hs5 hv6 hs6
    go_wp2_with fail
    go_ret
    exact ⟨rfl, hB⟩
  · have hb0 : a2 % 9 = 0 := by omega
    obtain ⟨n, hn⟩ : ∃ n, min (6 + a0 % 5) (6 + a1 % 5) = n := ⟨_, rfl⟩
    have n0 : 6 ≤ n := by omega
    have n1 : n ≤ 10 := by omega
    obtain ⟨T, hT⟩ : ∃ T, waitS a3 a4 n = T := ⟨_, rfl⟩
    obtain ⟨A, hA⟩ : ∃ A, shiftI 4294967296 n = A := ⟨_, rfl⟩
    obtain ⟨B, hBx⟩ : ∃ B, shiftI 4294967296 (n - 4) = B := ⟨_, rfl⟩
    have et : sentS p ⟨255, 6 + a0 % 5, 6 + a1 % 5, a2 % 9, 0⟩ a3 a4 = ⟨254, 6 + a0 % 5, 6 + a1 % 5, 0, T⟩ := by
      rw [hb0]
      unfold sentS
      rw [if_neg (show ¬ (0 : Int) < 0 by decide)]
      have eh : hostS p ⟨255, 6 + a0 % 5, 6 + a1 % 5, 0, 0⟩ = 6 + a0 % 5 := by
        unfold hostS
        rw [if_neg (by show ¬ (255 : Int) * 2 % 256 % 8 = 0; decide)]
      rw [eh, ← hT]
      show Rs.mk _ _ _ _ (waitS a3 a4 (heldI p (min (6 + a0 % 5) (6 + a1 % 5)))) = _
      rw [hn, held_in H n0 n1]
      rfl
    have key : A ≤ T - a3 ∧ T - a3 < A + B ∧ 0 ≤ A ∧ A + B ≤ 9223372036854775807 ∧ 0 ≤ B ∧ 0 ≤ T ∧ T ≤ 9223372036854775807 := by
      have W := wait_std (now := a3) (draw := a4) n0 n1 (by omega) (by omega) b4.1 b4.2
      rw [hT] at W
      have hk : n = 6 ∨ n = 7 ∨ n = 8 ∨ n = 9 ∨ n = 10 := by omega
      rcases hk with rfl | rfl | rfl | rfl | rfl
      · have e1 : A = 274877906944 := by rw [← hA]; decide
        have e2 : B = 17179869184 := by rw [← hBx]; decide
        omega
      · have e1 : A = 549755813888 := by rw [← hA]; decide
        have e2 : B = 34359738368 := by rw [← hBx]; decide
        omega
      · have e1 : A = 1099511627776 := by rw [← hA]; decide
        have e2 : B = 68719476736 := by rw [← hBx]; decide
        omega
      · have e1 : A = 2199023255552 := by rw [← hA]; decide
        have e2 : B = 137438953472 := by rw [← hBx]; decide
        omega
      · have e1 : A = 4398046511104 := by rw [← hA]; decide
        have e2 : B = 274877906944 := by rw [← hBx]; decide
        omega
    obtain ⟨k1, k2, k3, k4, k5, k6, k7⟩ := key
    have c4 : ∀ k, k = n → ∀ w, Calls Tryz.prog 7 #[.int .i64 k] w fun e w' => e = .returned (.int .i64 A) ∧ w = w' := fun k hk => by
      have := rpow_any n (by omega) (by omega)
      rw [hA] at this
      rw [hk]
      exact this
    have c5 : ∀ k, k = n - 4 → ∀ w, Calls Tryz.prog 7 #[.int .i64 k] w fun e w' => e = .returned (.int .i64 B) ∧ w = w' := fun k hk => by
      have := rpow_any (n - 4) (by omega) (by omega)
      rw [hBx] at this
      rw [hk]
      exact this
    rw [et] at c2
    unfold Pm.val Rs.val at *
    dsimp only at c2
    clear et st H hT hA hBx hb0
    go_enter Tryz.func3, Tryz.ntmps3
    go_wp2_with fail
    (with_reducible refine (c1 _).mono ?_)
    rintro e v1 ⟨rfl, hB1⟩
    go_upto_region 3 with fail
    have hq1 := hB1.alloc hB1.size (.cells #[.int .i64 p.step, .int .i64 p.watch, .int .i64 p.panic, .int .i64 p.maxrate, .int .i64 p.phi, .int .i64 p.maxdist, .int .i64 p.gate, .int .i64 p.minpoll, .int .i64 p.maxpoll, .int .i64 p.burst, .int .i64 p.minsane, .int .i64 p.minleft] 24)
    have hq2 := hq1.alloc hq1.size (.cells #[.int .u8 255, .int .i64 (6 + a0 % 5), .int .i64 (6 + a1 % 5), .int .i64 (a2 % 9), .int .i64 0] 27)
    have hv2 := heap_alloc_new (v1.alloc (.cells #[.int .i64 p.step, .int .i64 p.watch, .int .i64 p.panic, .int .i64 p.maxrate, .int .i64 p.phi, .int .i64 p.maxdist, .int .i64 p.gate, .int .i64 p.minpoll, .int .i64 p.maxpoll, .int .i64 p.burst, .int .i64 p.minsane, .int .i64 p.minleft] 24)) (.cells #[.int .u8 255, .int .i64 (6 + a0 % 5), .int .i64 (6 + a1 % 5), .int .i64 (a2 % 9), .int .i64 0] 27)
    have hp2 := (Below.heap_alloc (v1.alloc (.cells #[.int .i64 p.step, .int .i64 p.watch, .int .i64 p.panic, .int .i64 p.maxrate, .int .i64 p.phi, .int .i64 p.maxdist, .int .i64 p.gate, .int .i64 p.minpoll, .int .i64 p.maxpoll, .int .i64 p.burst, .int .i64 p.minsane, .int .i64 p.minleft] 24)) (.cells #[.int .u8 255, .int .i64 (6 + a0 % 5), .int .i64 (6 + a1 % 5), .int .i64 (a2 % 9), .int .i64 0] 27) v1.heap.size (by simp)).trans (heap_alloc_new v1 (.cells #[.int .i64 p.step, .int .i64 p.watch, .int .i64 p.panic, .int .i64 p.maxrate, .int .i64 p.phi, .int .i64 p.maxdist, .int .i64 p.gate, .int .i64 p.minpoll, .int .i64 p.maxpoll, .int .i64 p.burst, .int .i64 p.minsane, .int .i64 p.minleft] 24))
    rw [World.size_alloc] at hv2
    generalize (v1.alloc (.cells #[.int .i64 p.step, .int .i64 p.watch, .int .i64 p.panic, .int .i64 p.maxrate, .int .i64 p.phi, .int .i64 p.maxdist, .int .i64 p.gate, .int .i64 p.minpoll, .int .i64 p.maxpoll, .int .i64 p.burst, .int .i64 p.minsane, .int .i64 p.minleft] 24)).alloc (.cells #[.int .u8 255, .int .i64 (6 + a0 % 5), .int .i64 (6 + a1 % 5), .int .i64 (a2 % 9), .int .i64 0] 27) = v3 at *
    obtain ⟨r0, r1, r2, r3, r4⟩ := five_in hv2
    obtain ⟨q0, q1, q2, q3, q4, q5, q6, q7, q8, q9, q10, q11⟩ := twelve_at hp2
    clear hB1 hq1
    go_wp2_with fail
    (with_reducible refine (c2 _).mono ?_)
    rintro e v4 ⟨rfl, hB4⟩
    have hq4 := hq2.trans (hB4.mono hq2.size)
    have hv4 := (hB4.block _ (Array.getElem?_eq_some_iff.1 hv2).1).trans hv2
    have hq5 := hq4.alloc hq4.size (.cells #[.int .u8 254, .int .i64 (6 + a0 % 5), .int .i64 (6 + a1 % 5), .int .i64 0, .int .i64 T] 27)
    have hs5 := heap_alloc_new v4 (.cells #[.int .u8 254, .int .i64 (6 + a0 % 5), .int .i64 (6 + a1 % 5), .int .i64 0, .int .i64 T] 27)
    have hv5 := (Below.heap_alloc v4 (.cells #[.int .u8 254, .int .i64 (6 + a0 % 5), .int .i64 (6 + a1 % 5), .int .i64 0, .int .i64 T] 27) _ (Array.getElem?_eq_some_iff.1 hv4).1).trans hv4
    clear r0 r1 r2 r3 r4 q0 q1 q2 q3 q4 q5 q6 q7 q8 q9 q10 q11 hq2 hB4 hv2 hp2 hq4 hv4
    go_upto_region 4 with fail
    generalize v4.alloc (.cells #[.int .u8 254, .int .i64 (6 + a0 % 5), .int .i64 (6 + a1 % 5), .int .i64 0, .int .i64 T] 27) = v5 at *
    obtain ⟨s0, s1, s2, s3, s4⟩ := five_in hs5
    go_wp2_with fail
    (with_reducible refine (c3 _).mono ?_)
    rintro e v6 ⟨rfl, hB6⟩
    have hB := hq5.trans (hB6.mono hq5.size)
    have hv6 := (hB6.block _ (Array.getElem?_eq_some_iff.1 hv5).1).trans hv5
    have hs6 := (hB6.block _ (Array.getElem?_eq_some_iff.1 hs5).1).trans hs5
    clear s0 s1 s2 s3 s4
    obtain ⟨s0, s1, s2, s3, s4⟩ := five_in hs6
    obtain ⟨r0, r1, r2, r3, r4⟩ := five_in hv6
    clear hq5 hB6 hv5 hs5 hv6 hs6
    go_wp2_with fail
    all_goals
      (with_reducible refine (c4 _ (by omega) _).mono ?_)
      rintro e v7 ⟨rfl, rfl⟩
      go_wp2_with fail
      (with_reducible refine (c4 _ (by omega) _).mono ?_)
      rintro e v7 ⟨rfl, rfl⟩
      go_wp2_with fail
      (with_reducible refine (c5 _ (by omega) _).mono ?_)
      rintro e v7 ⟨rfl, rfl⟩
      go_wp2_with fail
      go_ret
      exact ⟨rfl, hB⟩
set_option maxRecDepth 100000 in
theorem lifted (os : Os) (started : os.Started) (H : Type) (enc : TypeId × Value → H) :
    ReturnsInHanded {} Tryz.checked os 3 .any (Rows.reachWaitsSpec.pre6 enc Tryz.prog Tryz.f3 Rows.reachWaitsRow.domain false) (Rows.reachWaitsSpec.post enc Tryz.prog Tryz.f3 false true false false) := by
  refine returnsInHanded_of_change (C := Tryz.checked) own started (by kernel_rfl) Tryz.func3
    (ChangeSpec.witness6 (enc := enc) (C := Tryz.checked) false ⟨#[], #[.int .u8 0, .int .u8 0, .int .u8 0, .int .u32 0, .int .u32 0], []⟩ 8 (by kernel_rfl) (by kernel_rfl) (by kernel_rfl) (by kernel_rfl)) ?_
  intro W base args ds gs before hval0 hW hcnd _
  have hval : ∀ (j : Nat) t v, Tryz.f3.params[j]? = some t → args[j]? = some v → Value.okWide Tryz.prog W .any base t v := hval0
  have hW' := hW
  obtain ⟨p, q, hA0, hV, rfl, hfz, hnd⟩ := hW
  have hA : DataW.TrodAll enc Tryz.prog W 0 (fun _ => true) true Tryz.f3.params.toList args.toList ds p := hA0
  rw [Tryz.params3] at hA hval
  obtain ⟨v0, vs0, d0, ds0, p0, q0, hargs, rfl, rfl, h0, r0⟩ := trodAll_cons hA
  obtain ⟨v1, vs1, d1, ds1, p1, q1, rfl, rfl, rfl, h1, r1⟩ := trodAll_cons r0
  obtain ⟨v2, vs2, d2, ds2, p2, q2, rfl, rfl, rfl, h2, r2⟩ := trodAll_cons r1
  obtain ⟨v3, vs3, d3, ds3, p3, q3, rfl, rfl, rfl, h3, r3⟩ := trodAll_cons r2
  obtain ⟨v4, vs4, d4, ds4, p4, q4, rfl, rfl, rfl, h4, r4⟩ := trodAll_cons r3
  obtain ⟨rfl, rfl, rfl⟩ := trodAll_nil r4
  obtain rfl : args = #[v0, v1, v2, v3, v4] := by cases args; simp_all
  obtain ⟨rfl, rfl⟩ := trodVars_none hV
  obtain ⟨a0, rfl, rfl, rfl, w0⟩ := open_int Tryz.underlying5 (hval 0 5 v0 rfl rfl) h0
  obtain ⟨a1, rfl, rfl, rfl, w1⟩ := open_int Tryz.underlying5 (hval 1 5 v1 rfl rfl) h1
  obtain ⟨a2, rfl, rfl, rfl, w2⟩ := open_int Tryz.underlying5 (hval 2 5 v2 rfl rfl) h2
  obtain ⟨a3, rfl, rfl, rfl, w3⟩ := open_int Tryz.underlying22 (hval 3 22 v3 rfl rfl) h3
  obtain ⟨a4, rfl, rfl, rfl, w4⟩ := open_int Tryz.underlying22 (hval 4 22 v4 rfl rfl) h4
  clear hA0 hval0
  refine (walk a0 a1 a2 a3 a4 W w0 w1 w2 w3 w4).mono fun e W' ⟨he, bel⟩ => ?_
  subst he
  exact ⟨_, rfl, _, _, _, [], _, [], hW', trodAll_mk1 (shut_bool Tryz.underlying4 _), (trodAll_cons_mk (shut_int Tryz.underlying5 w0) (trodAll_cons_mk (shut_int Tryz.underlying5 w1) (trodAll_cons_mk (shut_int Tryz.underlying5 w2) (trodAll_cons_mk (shut_int Tryz.underlying22 w3) (trodAll_cons_mk (shut_int Tryz.underlying22 w4) trodAll_mk0))))), rfl, bel.frame _, fun h => by cases h⟩

theorem over : Rows.reachWaitsRow.holds Tryz.pinned (OpenSpec.ofChange Rows.reachWaitsSpec) :=
  OpenClaim.holds_of_wide 3 Tryz.f3 rfl rfl rfl rfl rfl rfl rfl ⟨rfl, rfl, rfl, rfl, rfl⟩ rfl rfl rfl rfl rfl (by kernel_rfl) Tryz.func3 (by kernel_rfl)
    (of_decide_eq_true (by kernel_rfl)) (by unfold Func.isWrapper; first | (rw [if_pos (by decide +kernel)]; kernel_rfl) | (rw [if_neg (by decide +kernel)]; exact ⟨rfl, rfl⟩))
    (fun os started H enc _ => lifted os started H enc)

theorem proved : Rows.ReachWaitsSaid := over
end Go.Proofs.YtfangllkfcmefaaGreat.ReachWaits
