import Derived.Test.YtkjecjehphgpjaaGreatRtY
import Derived.Test.YtkjecjehphgpjaaGreatFixE
import Derived.Test.YtkjecjehphgpjaaGreatFixF
import Derived.Test.YtkjecjehphgpjaaGreatFixB
import Derived.BigQuiet
import Derived.Deep.QuietTactic
import Derived.Test.YtkjecjehphgpjaaGreatRtS
import Derived.Test.YtkjecjehphgpjaaGreatStE
import Derived.Test.YtkjecjehphgpjaaGreatSlA
import Derived.OwnWalk
import Derived.Deep.Onto
import Derived.Deep.AppendLies
import Derived.Laws.AppendOwn
import Derived.Laws.OwnMore
import Derived.Maps.AppendAt
/- Layer 15's reference, walked: how far a server is, its span, whether it is fit, its metric. -/
namespace Go.Proofs.YtkjecjehphgpjaaGreat.W
open Go.RowKit Go.Sort
set_option linter.unusedVariables false
set_option linter.unusedSimpArgs false
set_option maxRecDepth 100000 in
set_option maxHeartbeats 6400000 in
theorem theirs15_any (s : Sv) (w : World) : Calls Tryz.prog 5 #[s.val] w fun e w' => e = .returned s.val ∧ Below w.heap.size w w' := by
  have B := ((Below.refl w.heap.size w).alloc (Nat.le_refl _) (.cells (svV s) 28)).alloc (by simp) (.cells (svV s) 32)
  unfold Sv.val svV at *
  go_enter Tryz.func5, Tryz.ntmps5
  go_wp2_with fail
  refine bodyPost_ret (v := .agg #[.int .i64 s.leap, .int .i64 s.str, .int .u32 s.ref, .int .i64 s.del, .int .i64 s.disp, .int .i64 s.t.off, .int .i64 s.t.del, .int .i64 s.t.disp, .int .i64 s.t.jit, .int .i64 s.t.at_, .int .u8 s.reg]) ?_ rfl ?_
  · simp [results, Tryz.results5, go_sem]
  · exact ⟨rfl, B⟩
set_option maxRecDepth 100000 in
set_option maxHeartbeats 12800000 in
theorem rdist15_any (p : Pm) (tp : p.Typed) (s : Sv) (ts : s.Typed) (at_ : Int) (a0 : -9223372036854775808 ≤ at_ ∧ at_ ≤ 9223372036854775807) (w : World) :
    Calls Tryz.prog 7 #[p.val, s.val, .int .i64 at_] w fun e w' => e = .returned (.int .i64 (distI p s at_)) ∧ Below w.heap.size w w' := by
  have hdel := ts.del
  have hdisp := ts.disp
  have htd := ts.t.del
  have htp := ts.t.disp
  have htj := ts.t.jit
  have hta := ts.t.at_
  have hph := tp.phi
  have c1 := radd_any s.del s.t.del hdel.1 hdel.2 htd.1 htd.2
  obtain ⟨x1, e1⟩ : ∃ x, addI s.del s.t.del = x := ⟨_, rfl⟩
  have b1 := addI_range s.del s.t.del
  obtain ⟨x2, e2⟩ : ∃ x, max 21474836 x1 = x := ⟨_, rfl⟩
  rw [e1] at c1 b1
  have c2 := rshift_any x2 (-1) (by omega) (by omega) (by decide) (by decide)
  obtain ⟨x3, e3⟩ : ∃ x, shiftI x2 (-1) = x := ⟨_, rfl⟩
  have b3 : -9223372036854775807 ≤ x3 ∧ x3 ≤ 9223372036854775807 := by
    rw [← e3]
    unfold shiftI
    rw [if_pos (by decide)]
    exact cutI_range _
  rw [e3] at c2
  have c3 := radd_any x3 s.disp (by omega) (by omega) hdisp.1 hdisp.2
  obtain ⟨x4, e4⟩ : ∃ x, addI x3 s.disp = x := ⟨_, rfl⟩
  have b4 := addI_range x3 s.disp
  rw [e4] at c3 b4
  have c4 := radd_any x4 s.t.disp (by omega) (by omega) htp.1 htp.2
  obtain ⟨x5, e5⟩ : ∃ x, addI x4 s.t.disp = x := ⟨_, rfl⟩
  have b5 := addI_range x4 s.t.disp
  rw [e5] at c4 b5
  have c5 := rsub_any at_ s.t.at_ a0.1 a0.2 hta.1 hta.2
  obtain ⟨x6, e6⟩ : ∃ x, subI at_ s.t.at_ = x := ⟨_, rfl⟩
  have b6 := subI_range at_ s.t.at_
  rw [e6] at c5 b6
  obtain ⟨x7, e7⟩ : ∃ x, max 0 x6 = x := ⟨_, rfl⟩
  have c6 := rfmul_any p.phi x7 hph.1 hph.2 (by omega) (by omega)
  obtain ⟨x8, e8⟩ : ∃ x, mulI p.phi x7 = x := ⟨_, rfl⟩
  have b8 := mulI_range' p.phi x7
  rw [e8] at c6 b8
  have c7 := radd_any x5 x8 (by omega) (by omega) (by omega) (by omega)
  obtain ⟨x9, e9⟩ : ∃ x, addI x5 x8 = x := ⟨_, rfl⟩
  have b9 := addI_range x5 x8
  rw [e9] at c7 b9
  have c8 := radd_any x9 s.t.jit (by omega) (by omega) htj.1 htj.2
  have hD : distI p s at_ = addI x9 s.t.jit := by
    unfold distI dist0
    rw [e1, e2, e3, e4, e5, e6, e7, e8, e9]
  rw [hD]
  generalize addI x9 s.t.jit = D at *
  have m1 := fun ts t => run_max15 21474836 x1 x2 e2 ts t
  have m2 := fun ts t => run_max15 0 x6 x7 e7 ts t
  have B := ((Below.refl w.heap.size w).alloc (Nat.le_refl _) (.cells (pmV p) 29)).alloc (by simp) (.cells (svV s) 32)
  have hp : ((w.alloc (.cells (pmV p) 29)).alloc (.cells (svV s) 32)).heap[w.heap.size]? = some (.cells (pmV p) 29 (0, 0)) := laid _ (heap_alloc_new w _)
  have hs : ((w.alloc (.cells (pmV p) 29)).alloc (.cells (svV s) 32)).heap[w.heap.size + 1]? = some (.cells (svV s) 32 (0, 0)) := by
    have := heap_alloc_new (w.alloc (.cells (pmV p) 29)) (.cells (svV s) 32)
    simpa [World.size_alloc] using this
  unfold pmV svV at *
  have HH := Lib.hid (And.intro hp hs)
  have HS := Lib.hid hs
  clear hp hs
  unfold Pm.val Sv.val at *
  clear e1 e2 e3 e4 e5 e6 e7 e8 e9 hD hdel hdisp htd htp htj hta hph b1 b3 b4 b5 b6 b8 b9
  go_enter Tryz.func7, Tryz.ntmps7
  go_wp2_with fail
  (with_reducible refine (c1 _).mono ?_)
  rintro e w1 ⟨rfl, rfl⟩
  go_wp2_with fail
  (with_reducible refine (c2 _).mono ?_)
  rintro e w1 ⟨rfl, rfl⟩
  go_wp2_with fail
  (with_reducible refine (c3 _).mono ?_)
  rintro e w1 ⟨rfl, rfl⟩
  go_wp2_with fail
  (with_reducible refine (c4 _).mono ?_)
  rintro e w1 ⟨rfl, rfl⟩
  clear c1 c2 c3 c4 m1
  go_upto_region 4 with fail
  obtain ⟨hp, hs⟩ := HH.out
  clear HH
  generalize ((w.alloc (.cells #[.int .i64 p.step, .int .i64 p.watch, .int .i64 p.panic, .int .i64 p.maxrate, .int .i64 p.phi, .int .i64 p.maxdist, .int .i64 p.gate, .int .i64 p.minpoll, .int .i64 p.maxpoll, .int .i64 p.burst, .int .i64 p.minsane, .int .i64 p.minleft] 29)).alloc (.cells #[.int .i64 s.leap, .int .i64 s.str, .int .u32 s.ref, .int .i64 s.del, .int .i64 s.disp, .int .i64 s.t.off, .int .i64 s.t.del, .int .i64 s.t.disp, .int .i64 s.t.jit, .int .i64 s.t.at_, .int .u8 s.reg] 32)) = w1 at *
  obtain ⟨s0, s1, s2, s3, s4, s5, s6, s7, s8, s9, s10⟩ := eleven_in hs
  obtain ⟨a0', a1, a2, a3, a4, a5, a6, a7, a8, a9, a10, a11⟩ := twelve_atK hp
  have k9 := cell_regrown s9
  have ka4 := cell_regrown a4
  have d5 := fun d os => (Calls.regrown_of ((c5 (grow (redrawn w1 d) os)).mono fun e w' h => And.intro h.1 (h.2 ▸ Below.refl _ _)))
  have d6 := fun d os => (Calls.regrown_of ((c6 (grow (redrawn w1 d) os)).mono fun e w' h => And.intro h.1 (h.2 ▸ Below.refl _ _)))
  have d7 := fun d os => (Calls.regrown_of ((c7 (grow (redrawn w1 d) os)).mono fun e w' h => And.intro h.1 (h.2 ▸ Below.refl _ _)))
  clear s0 s1 s2 s3 s4 s5 s6 s7 s8 s10 a0' a1 a2 a3 a5 a6 a7 a8 a9 a10 a11 s9 a4 hs hp c5 c6 c7
  refine wp_region_quiet_below (by kernel_rfl) (by kernel_rfl) ?_
  repeat (quiet_step (first | (with_reducible exact d5 _ _) | (with_reducible exact d6 _ _) | (with_reducible exact d7 _ _)))
  refine wpQuiet_nil ?_
  intro w2 hw
  replace hw := below_again hw
  clear k9 ka4 d5 d6 d7 m2
  obtain ⟨s0, s1, s2, s3, s4, s5, s6, s7, s8, s9, s10⟩ := eleven_in (kept HS.out hw)
  go_wp2_with fail
  (with_reducible refine (c8 _).mono ?_)
  rintro e w3 ⟨rfl, rfl⟩
  go_wp2_with fail
  go_ret
  exact ⟨rfl, B.trans (hw.mono B.size)⟩
set_option maxRecDepth 100000 in
set_option maxHeartbeats 12800000 in
theorem rspan15_any (p : Pm) (tp : p.Typed) (s : Sv) (ts : s.Typed) (at_ : Int) (a0 : -9223372036854775808 ≤ at_ ∧ at_ ≤ 9223372036854775807) (w : World) :
    Calls Tryz.prog 9 #[p.val, s.val, .int .i64 at_] w fun e w' => e = .returned (.agg #[.int .i64 (lowI p s at_), .int .i64 (highI p s at_)]) ∧ Below w.heap.size w w' := by
  have cd := rdist15_any p tp s ts at_ a0
  have dr := dist_range p s at_
  have hto := ts.t.off
  have c1 := rsub_any s.t.off (distI p s at_) hto.1 hto.2 (by omega) (by omega)
  have c2 := radd_any s.t.off (distI p s at_) hto.1 hto.2 (by omega) (by omega)
  change ∀ w, Calls _ _ _ w fun e w' => e = .returned (.int .i64 (lowI p s at_)) ∧ w = w' at c1
  change ∀ w, Calls _ _ _ w fun e w' => e = .returned (.int .i64 (highI p s at_)) ∧ w = w' at c2
  generalize lowI p s at_ = L at *
  generalize highI p s at_ = G at *
  generalize distI p s at_ = D at *
  have B := (((Below.refl w.heap.size w).alloc (Nat.le_refl _) (.cells (pmV p) 29)).alloc (by simp) (.cells (svV s) 32)).alloc (by simp; omega) (.cells #[.int .i64 0, .int .i64 0] 37)
  have hs : (((w.alloc (.cells (pmV p) 29)).alloc (.cells (svV s) 32)).alloc (.cells #[.int .i64 0, .int .i64 0] 37)).heap[w.heap.size + 1]? = some (.cells (svV s) 32 (0, 0)) := laid _ (by have := heap_alloc_new (w.alloc (.cells (pmV p) 29)) (.cells (svV s) 32); simpa [World.size_alloc] using this)
  have hr : (((w.alloc (.cells (pmV p) 29)).alloc (.cells (svV s) 32)).alloc (.cells #[.int .i64 0, .int .i64 0] 37)).heap[w.heap.size + 1 + 1]? = some (.cells #[.int .i64 0, .int .i64 0] 37 (0, 0)) := by
    have := heap_alloc_new ((w.alloc (.cells (pmV p) 29)).alloc (.cells (svV s) 32)) (.cells #[.int .i64 0, .int .i64 0] 37)
    simpa [World.size_alloc] using this
  have HH := Lib.hid (And.intro hs (And.intro hr B))
  unfold Pm.val Sv.val pmV svV at *
  clear hs hr B dr hto
  go_enter Tryz.func9, Tryz.ntmps9
  go_wp2_with fail
  (with_reducible refine (cd _).mono ?_)
  rintro e w1 ⟨rfl, hw⟩
  obtain ⟨hs, hr, B⟩ := HH.out
  replace hs := kept hs hw
  replace hr := kept hr hw
  replace B := B.trans (hw.mono B.size)
  clear HH hw cd
  obtain ⟨s0, s1, s2, s3, s4, s5, s6, s7, s8, s9, s10⟩ := eleven_in hs
  have k5 := cell_regrown s5
  have d1 := fun d os => (Calls.regrown_of ((c1 (grow (redrawn w1 d) os)).mono fun e w' h => And.intro h.1 (h.2 ▸ Below.refl _ _)))
  have d2 := fun d os => (Calls.regrown_of ((c2 (grow (redrawn w1 d) os)).mono fun e w' h => And.intro h.1 (h.2 ▸ Below.refl _ _)))
  clear s0 s1 s2 s3 s4 s5 s6 s7 s8 s9 s10 c1 c2 hs
  go_upto_region 2 with fail
  refine wp_region_below_tail 10 (by kernel_rfl) (by kernel_rfl) ?_
  simp only [List.take_succ_cons, List.take_zero, List.drop_succ_cons, List.drop_zero]
  repeat (quiet_step (first | (with_reducible exact d1 _ _) | (with_reducible exact d2 _ _)))
  refine wpQuiet_nil ?_
  intro w2 hw
  replace hw := below_again hw
  replace hr := kept hr hw
  replace B := B.trans (hw.mono B.size)
  clear hw k5 d1 d2
  have n1 := block_set 1 (.int .i64 G) (block_set 0 (.int .i64 L) hr)
  have B1 := (B.setCell (p := ⟨w.heap.size + 1 + 1, 0, none⟩) (by show w.heap.size ≤ w.heap.size + 1 + 1; omega) (.int .i64 L)).setCell (p := ⟨w.heap.size + 1 + 1, 1, none⟩) (by show w.heap.size ≤ w.heap.size + 1 + 1; omega) (.int .i64 G)
  obtain ⟨r0, r1⟩ := two_in15 hr
  have fz := bc_frozenK hr
  have EE := Lib.hid (And.intro n1 B1)
  clear n1 B1 hr B
  go_wp2_with fail
  obtain ⟨q0, q1⟩ := two_in15 EE.out.1
  refine bodyPost_ret (v := .agg #[.int .i64 L, .int .i64 G]) ?_ rfl ?_
  · simp [results, Tryz.results9, go_sem, q0, q1]
  · exact ⟨rfl, EE.out.2⟩
set_option maxRecDepth 100000 in
set_option maxHeartbeats 12800000 in
theorem rmet15_any (p : Pm) (tp : p.Typed) (s : Sv) (ts : s.Typed) (at_ : Int) (a0 : -9223372036854775808 ≤ at_ ∧ at_ ≤ 9223372036854775807) (w : World) :
    Calls Tryz.prog 13 #[p.val, s.val, .int .i64 at_] w fun e w' => e = .returned (.int .i64 (metI p s at_)) ∧ Below w.heap.size w w' := by
  have cd := rdist15_any p tp s ts at_ a0
  have dr := dist_range p s at_
  have hmd := tp.maxdist
  obtain ⟨m, hm⟩ : ∃ m, min s.str 16 = m := ⟨_, rfl⟩
  obtain ⟨N, hN⟩ : ∃ N : Nat, (max 0 m).toNat = N := ⟨_, rfl⟩
  have hN' : max 0 m = (N : Int) := by omega
  have hN16 : N ≤ 16 := by omega
  have r1 := fun ts t => run_min15 s.str 16 m hm ts t
  have r2 := fun ts t => run_max15 0 m _ hN' ts t
  have hM : metI p s at_ = addI (timesI p.maxdist N) (distI p s at_) := by unfold metI; rw [hm, hN]
  have tr := times_range p.maxdist
  have ca := fun k : Nat => radd_any (timesI p.maxdist k) p.maxdist (by have := tr k; omega) (tr k).2 hmd.1 hmd.2
  have cz := radd_any (timesI p.maxdist N) (distI p s at_) (by have := tr N; omega) (tr N).2 (by omega) (by omega)
  rw [← hM] at cz
  generalize metI p s at_ = M at *
  generalize distI p s at_ = D at *
  have B := ((Below.refl w.heap.size w).alloc (Nat.le_refl _) (.cells (pmV p) 29)).alloc (by simp) (.cells (svV s) 32)
  have CA : Hid (∀ (k : Nat) (w : World), Calls Tryz.prog 23 #[.int .i64 (timesI p.maxdist k), .int .i64 p.maxdist] w fun e w' => e = .returned (.int .i64 (timesI p.maxdist (k + 1))) ∧ w = w') := Lib.hid ca
  have TR := Lib.hid tr
  unfold Pm.val Sv.val pmV svV at *
  clear hm hN hN' hM dr hmd ca tr
  go_enter Tryz.func13, Tryz.ntmps13
  go_wp2_with fail
  go_loop [7, 8] (fun n i => ∃ k : Nat, k ≤ N ∧ i = .int .i64 (k : Int) ∧ n = .int .i64 (timesI p.maxdist k)) (fun _ i => N - (intOf i).toNat)
  case atStart => exact ⟨0, Nat.zero_le _, rfl, rfl⟩
  case round =>
    obtain ⟨k, hk, rfl, rfl⟩ := hrel
    have tk := TR.out k
    have ck := CA.out k
    by_cases hlt : k < N
    · have i1 : (k : Int) < N := by omega
      go_wp2_with fail
      (with_reducible refine (ck _).mono ?_)
      rintro e w1 ⟨rfl, rfl⟩
      go_wp2_with fail
      go_round
      case rel => exact ⟨k + 1, by omega, by go_num, rfl⟩
      case measure => simp [intOf]; omega
    · obtain rfl : k = N := by omega
      go_wp2_with fail
      (with_reducible refine (cd _).mono ?_)
      rintro e w1 ⟨rfl, hw⟩
      go_wp2_with fail
      (with_reducible refine (cz _).mono ?_)
      rintro e w2 ⟨rfl, rfl⟩
      go_wp2_with fail
      go_ret
      exact ⟨rfl, B.trans (hw.mono B.size)⟩
set_option maxHeartbeats 800000 in
theorem rpow15_any (n : Int) (hn : -9223372036854775808 ≤ n) (hn' : n ≤ 9223372036854775807) (w : World) :
    Calls Tryz.prog 29 #[.int .i64 n] w fun e w' => e = .returned (.int .i64 (shiftI 4294967296 n)) ∧ w = w' := by
  have hc := rshift_any 4294967296 n (by decide) (by decide) hn hn'
  go_enter Tryz.func29, Tryz.ntmps29
  go_wp2_with fail
  (with_reducible refine (hc _).mono ?_)
  rintro e w1 ⟨rfl, rfl⟩
  go_wp2_with fail
  go_ret
  exact ⟨rfl, rfl⟩
set_option maxRecDepth 100000 in
set_option maxHeartbeats 25600000 in
theorem rfit15_any (p : Pm) (tp : p.Typed) (s : Sv) (ts : s.Typed) (own poll at_ : Int) (o0 : 0 ≤ own ∧ own ≤ 4294967295) (p0 : -9223372036854775808 ≤ poll ∧ poll ≤ 9223372036854775807) (a0 : -9223372036854775808 ≤ at_ ∧ at_ ≤ 9223372036854775807) (w : World) :
    Calls Tryz.prog 11 #[p.val, s.val, .int .u32 own, .int .i64 poll, .int .i64 at_] w fun e w' => e = .returned (.int .i64 (fitE p s own poll at_)) ∧ Below w.heap.size w w' := by
  have cd := rdist15_any p tp s ts at_ a0
  have c1 := rpow15_any poll p0.1 p0.2
  change ∀ w, Calls _ _ _ w fun e w' => e = .returned (.int .i64 (powI poll)) ∧ w = w' at c1
  have hpw : -9223372036854775807 ≤ powI poll ∧ powI poll ≤ 9223372036854775807 := by
    unfold powI shiftI
    split <;> exact cutI_range _
  have hmd := tp.maxdist
  have hph := tp.phi
  have c2 := rfmul_any p.phi (powI poll) hph.1 hph.2 (by omega) (by omega)
  have hml := mulI_range' p.phi (powI poll)
  have c3 := radd_any p.maxdist (mulI p.phi (powI poll)) hmd.1 hmd.2 (by omega) (by omega)
  change ∀ w, Calls _ _ _ w fun e w' => e = .returned (.int .i64 (limI p poll)) ∧ w = w' at c3
  have B := ((Below.refl w.heap.size w).alloc (Nat.le_refl _) (.cells (pmV p) 29)).alloc (by simp) (.cells (svV s) 32)
  have hp : ((w.alloc (.cells (pmV p) 29)).alloc (.cells (svV s) 32)).heap[w.heap.size]? = some (.cells (pmV p) 29 (0, 0)) := laid _ (heap_alloc_new w _)
  have hs : ((w.alloc (.cells (pmV p) 29)).alloc (.cells (svV s) 32)).heap[w.heap.size + 1]? = some (.cells (svV s) 32 (0, 0)) := by
    have := heap_alloc_new (w.alloc (.cells (pmV p) 29)) (.cells (svV s) 32)
    simpa [World.size_alloc] using this
  unfold pmV svV at *
  have HH := Lib.hid (And.intro hp (And.intro hs B))
  unfold fitE
  generalize limI p poll = LM at *
  generalize mulI p.phi (powI poll) = ML at *
  generalize powI poll = PW at *
  generalize distI p s at_ = D at *
  unfold Pm.val Sv.val at *
  clear hpw hmd hph hml hp hs B tp ts
  by_cases h1 : s.leap = 3 ∨ s.str < 1 ∨ 15 < s.str
  · rw [if_pos h1]
    have hc : (s.leap == 3) = true ∨ ((s.leap == 3) = false ∧ s.str < 1) ∨ ((s.leap == 3) = false ∧ ¬ s.str < 1 ∧ 15 < s.str) := by
      by_cases e : s.leap = 3
      · exact .inl (by simpa using e)
      · have e' : (s.leap == 3) = false := by rw [beq_eq_false_iff_ne]; exact e
        by_cases e2 : s.str < 1
        · exact .inr (.inl ⟨e', e2⟩)
        · exact .inr (.inr ⟨e', e2, by omega⟩)
    clear h1
    rcases hc with g | ⟨g, g1⟩ | ⟨g, g1, g2⟩
    all_goals
      go_enter Tryz.func11, Tryz.ntmps11
      go_wp2_with fail
      go_ret
      exact ⟨rfl, HH.out.2.2⟩
  · rw [if_neg h1]
    have g0 : (s.leap == 3) = false := by rw [beq_eq_false_iff_ne]; omega
    have g1 : ¬ s.str < 1 := by omega
    have g2 : ¬ 15 < s.str := by omega
    clear h1
    obtain ⟨E, hE⟩ : ∃ E : Int, (if LM ≤ D then 124 else if 1 < s.str ∧ s.ref = own then 4 else if s.reg = 0 then 3 else 0) = E := ⟨_, rfl⟩
    rw [hE]
    have HE := Lib.hid hE
    clear hE
    go_enter Tryz.func11, Tryz.ntmps11
    go_upto_region 3 with fail
    obtain ⟨hp, hs, B⟩ := HH.out
    clear HH
    generalize ((w.alloc (.cells #[.int .i64 p.step, .int .i64 p.watch, .int .i64 p.panic, .int .i64 p.maxrate, .int .i64 p.phi, .int .i64 p.maxdist, .int .i64 p.gate, .int .i64 p.minpoll, .int .i64 p.maxpoll, .int .i64 p.burst, .int .i64 p.minsane, .int .i64 p.minleft] 29)).alloc (.cells #[.int .i64 s.leap, .int .i64 s.str, .int .u32 s.ref, .int .i64 s.del, .int .i64 s.disp, .int .i64 s.t.off, .int .i64 s.t.del, .int .i64 s.t.disp, .int .i64 s.t.jit, .int .i64 s.t.at_, .int .u8 s.reg] 32)) = w1 at *
    obtain ⟨s0, s1, s2, s3, s4, s5, s6, s7, s8, s9, s10⟩ := eleven_in hs
    obtain ⟨b0, b1, b2, b3, b4, b5, b6, b7, b8, b9, b10, b11⟩ := twelve_atK hp
    have ks0 := cell_regrown s0
    have ks1 := cell_regrown s1
    have ks2 := cell_regrown s2
    have ks3 := cell_regrown s3
    have ks4 := cell_regrown s4
    have ks5 := cell_regrown s5
    have ks6 := cell_regrown s6
    have ks7 := cell_regrown s7
    have ks8 := cell_regrown s8
    have ks9 := cell_regrown s9
    have ks10 := cell_regrown s10
    have kb0 := cell_regrown b0
    have kb1 := cell_regrown b1
    have kb2 := cell_regrown b2
    have kb3 := cell_regrown b3
    have kb4 := cell_regrown b4
    have kb5 := cell_regrown b5
    have kb6 := cell_regrown b6
    have kb7 := cell_regrown b7
    have kb8 := cell_regrown b8
    have kb9 := cell_regrown b9
    have kb10 := cell_regrown b10
    have kb11 := cell_regrown b11
    have d0 := fun d os => Calls.regrown_of (cd (grow (redrawn w1 d) os))
    have d1 := fun d os => (Calls.regrown_of ((c1 (grow (redrawn w1 d) os)).mono fun e w' h => And.intro h.1 (h.2 ▸ Below.refl _ _)))
    have d2 := fun d os => (Calls.regrown_of ((c2 (grow (redrawn w1 d) os)).mono fun e w' h => And.intro h.1 (h.2 ▸ Below.refl _ _)))
    have d3 := fun d os => (Calls.regrown_of ((c3 (grow (redrawn w1 d) os)).mono fun e w' h => And.intro h.1 (h.2 ▸ Below.refl _ _)))
    have HS := Lib.hid hs
    clear s0 s1 s2 s3 s4 s5 s6 s7 s8 s9 s10 b0 b1 b2 b3 b4 b5 b6 b7 b8 b9 b10 b11 hs hp cd c1 c2 c3
    refine wp_region_quiet_below (by kernel_rfl) (by kernel_rfl) ?_
    repeat (quiet_step (first | (with_reducible exact d0 _ _) | (with_reducible exact d1 _ _) | (with_reducible exact d2 _ _) | (with_reducible exact d3 _ _)))
    refine wpQuiet_nil ?_
    intro w2 hw
    replace hw := below_again hw
    clear d0 d1 d2 d3 ks0 ks1 ks2 ks3 ks4 ks5 ks6 ks7 ks8 ks9 ks10 kb0 kb1 kb2 kb3 kb4 kb5 kb6 kb7 kb8 kb9 kb10 kb11
    obtain ⟨s0, s1, s2, s3, s4, s5, s6, s7, s8, s9, s10⟩ := eleven_in (kept HS.out hw)
    have BB := Lib.hid (B.trans (hw.mono B.size))
    clear B hw HS
    by_cases h2 : LM ≤ D
    · have H2 := Lib.hid h2
      have hb : decide (LM ≤ D) = true := by simpa using h2
      go_wp2_with fail
      go_ret
      exact ⟨(by rw [← HE.out, if_pos H2.out]; rfl), BB.out⟩
    · have H2 := Lib.hid h2
      have hb : decide (LM ≤ D) = false := by simpa using h2
      by_cases h3 : 1 < s.str ∧ s.ref = own
      · have H3 := Lib.hid h3
        obtain ⟨h3, h4⟩ := h3
        have h5 : (s.ref == own) = true := by simpa using h4
        clear h4
        go_wp2_with fail
        go_ret
        exact ⟨(by rw [← HE.out, if_neg (by have := H2.out; omega), if_pos H3.out]; rfl), BB.out⟩
      · have H3 := Lib.hid h3
        have h4 : ¬ 1 < s.str ∨ (1 < s.str ∧ (s.ref == own) = false) := by
          by_cases e : 1 < s.str
          · exact .inr ⟨e, by rw [beq_eq_false_iff_ne]; exact fun g => h3 ⟨e, g⟩⟩
          · exact .inl e
        clear h3
        by_cases h6 : s.reg = 0
        · have H6 := Lib.hid h6
          have h7 : (s.reg == 0) = true := by simpa using h6
          clear h6
          rcases h4 with h4 | ⟨h4, h5⟩
          all_goals
            go_wp2_with fail
            go_ret
            exact ⟨(by rw [← HE.out, if_neg (by have := H2.out; omega), if_neg H3.out, if_pos H6.out]; rfl), BB.out⟩
        · have H6 := Lib.hid h6
          have h7 : (s.reg == 0) = false := by rw [beq_eq_false_iff_ne]; exact h6
          clear h6
          rcases h4 with h4 | ⟨h4, h5⟩
          all_goals
            go_wp2_with fail
            go_ret
            exact ⟨(by rw [← HE.out, if_neg (by have := H2.out; omega), if_neg H3.out, if_neg H6.out]; rfl), BB.out⟩
end Go.Proofs.YtkjecjehphgpjaaGreat.W

/- The document's own answers of layer 15, walked: places sorted by a metric. -/
namespace Go.Proofs.YtkjecjehphgpjaaGreat.W
open Go.RowKit Go.Sort
set_option linter.unusedVariables false
set_option linter.unusedSimpArgs false
theorem insA_length (m : Nat → Int) (i : Nat) (l : List Nat) (k : Nat) : (insA m i l k).length ≤ k + 1 := by
  unfold insA
  split
  · rw [insP_length, List.length_take]; omega
  · rw [List.length_take]; omega
theorem insA_zero (m : Nat → Int) (i : Nat) (l : List Nat) : insA m i l 0 = [] := by simp [insA]
theorem done_zero (m : Nat → Int) (i : Nat) (l : List Nat) : doneB m i l 0 = false := by simp [doneB]
set_option maxRecDepth 100000 in
set_option maxHeartbeats 12800000 in
theorem rsort15_any (p : Pm) (tp : p.Typed) (at_ : Int) (a0 : -9223372036854775808 ≤ at_ ∧ at_ ≤ 9223372036854775807) (l : List Sv) (tl : ∀ s ∈ l, s.Typed) (hl : l.length ≤ 60) {F : Nat → Prop} {v : Value} (w : World) (hs : SlAt F 11 svC w v l) (hF : ∀ b, F b → b < w.heap.size) :
    Calls Tryz.prog 16 #[p.val, v, .int .i64 at_] w fun e w' => ∃ u, e = .returned u ∧ SlAt (fun b => w.heap.size ≤ b ∧ b < w'.heap.size) 1 plE w' u (sortP (metN p l at_) l.length) ∧ Below w.heap.size w w' := by
  obtain ⟨i0, hi0, hz0, hz1, hz2⟩ := info_parts info_int
  have hA : Below w.heap.size w (w.alloc (.cells (pmV p) 29)) := (Below.refl _ _).alloc (Nat.le_refl _) _
  have zp : (w.alloc (.cells (pmV p) 29)).heap[w.heap.size]? = some (.cells (pmV p) 29 (0, 0)) := heap_alloc_new w _
  have zs1 : (w.alloc (.cells (pmV p) 29)).heap.size = w.heap.size + 1 := World.size_alloc _ _
  have C : Hid (∀ s ∈ l, ∀ w, Calls Tryz.prog 13 #[.agg (pmV p), .agg (svV s), .int .i64 at_] w fun e w' => e = .returned (.int .i64 (metI p s at_)) ∧ Below w.heap.size w w') := Lib.hid (fun s hm w => rmet15_any p tp s (tl s hm) at_ a0 w)
  have hmn : ∀ i s, l[i]? = some s → metN p l at_ i = metI p s at_ := fun i s h => by unfold metN; rw [h]
  have MN := Lib.hid hmn
  have HS := Lib.hid hs
  obtain ⟨vx, vc, rfl⟩ := hs.slice
  generalize metN p l at_ = m at *
  have own0 : ∀ W : World, W.ownsRow W.heap.size 3 1 (.slice none 0 0) 0 [] := fun W => World.ownsRow_nil _ _ _ _
  clear hmn tl hs
  unfold Pm.val pmV svV at *
  go_enter Tryz.func16, Tryz.ntmps16
  go_upto_region 1 with fail
  generalize w.alloc (.cells #[.int .i64 p.step, .int .i64 p.watch, .int .i64 p.panic, .int .i64 p.maxrate, .int .i64 p.phi, .int .i64 p.maxdist, .int .i64 p.gate, .int .i64 p.minpoll, .int .i64 p.maxpoll, .int .i64 p.burst, .int .i64 p.minsane, .int .i64 p.minleft] 29) = w1 at *
  have HP := Lib.hid (And.intro zp hA)
  have lp1 := (Array.getElem?_eq_some_iff.1 zp).1
  clear zp hA zs1
  go_wp2_with fail
  have ownS := ownsRow_fresh w1 3 1 w1.heap.size (Nat.le_refl _)
  have bS := (Below.refl w1.heap.size w1).alloc (Nat.le_refl _) (.cells #[] 3)
  go_loopw [7, 8] (fun o i wr => ∃ n : Nat, n ≤ l.length ∧ i = .int .i64 (n : Int) ∧ wr.ownsRow w1.heap.size 3 1 o (sortP m n).length ((sortP m n).flatMap plE) ∧ Below w1.heap.size w1 wr) (fun _ i _ => l.length - (intOf i).toNat)
  case atStart => exact ⟨0, Nat.zero_le _, rfl, ownS, bS⟩
  case round =>
    obtain ⟨n, hn, rfl, own, hB⟩ := hrel
    generalize wr = wo at *
    clear ownS bS own0
    have hsl := sortP_length m n
    obtain ⟨xo, co, rfl⟩ := (SlAt.own plE_length own).slice
    have OL := Lib.hid own
    rw [hsl] at own ⊢
    have z1 := hB.size
    by_cases hlt : n < l.length
    · obtain ⟨s, hsn⟩ : ∃ s, l[n]? = some s := ⟨_, List.getElem?_eq_getElem hlt⟩
      have cs := C.out s (List.mem_of_getElem? hsn)
      have hms := MN.out n s hsn
      rw [← hms] at cs
      clear hms
      have hpr := (hB.block _ (by omega)).trans HP.out.1
      have i1 : (n : Int) < l.length := by omega
      have i0' : (0 : Int) ≤ (n : Int) := by omega
      have ownI := ownsRow_fresh wo 3 1 wo.heap.size (Nat.le_refl _)
      have bI := (Below.refl wo.heap.size wo).alloc (Nat.le_refl _) (.cells #[] 3)
      have OW := Lib.hid (And.intro own hB)
      clear own hB
      go_wp2_with fail
      go_loopw [9, 10, 11] (fun nx dn j wr => ∃ k : Nat, k ≤ n ∧ j = .int .i64 (k : Int) ∧ dn = .bool (doneB m n (sortP m n) k) ∧ wr.ownsRow wo.heap.size 3 1 nx (insA m n (sortP m n) k).length ((insA m n (sortP m n) k).flatMap plE) ∧ Below wo.heap.size wo wr) (fun _ _ j _ => n - (intOf j).toNat)
      case atStart => exact ⟨0, Nat.zero_le _, rfl, by rw [done_zero], by rw [insA_zero]; exact ownI, bI⟩
      case round =>
        obtain ⟨k, hk, rfl, rfl, ownN, hBi⟩ := hrel
        clear ownI bI
        have hil := insA_length m n (sortP m n) k
        have zi := hBi.size
        by_cases hkl : k < n
        · obtain ⟨y, hy⟩ : ∃ y, (sortP m n)[k]? = some y := ⟨_, List.getElem?_eq_getElem (by rw [hsl]; exact hkl)⟩
          have hyn : y < n := (sortP_mem m n y).1 (List.mem_of_getElem? hy)
          obtain ⟨t, hty⟩ : ∃ t, l[y]? = some t := ⟨_, List.getElem?_eq_getElem (by omega)⟩
          have ct := C.out t (List.mem_of_getElem? hty)
          have hmt := MN.out y t hty
          rw [← hmt] at ct
          clear hmt
          have hstep := insA_step (m := m) (i := n) hy
          have dstep := done_step (m := m) (i := n) hy
          obtain ⟨g, cap, hv, hg1, hg2⟩ := OW.out.1.form (by omega)
          obtain ⟨rfl, rfl⟩ : xo = some ⟨g, 0, none⟩ ∧ co = cap := by simpa using hv
          have ko := OW.out.1.cellAt k (by omega)
          rw [plE_get _ _ _ hy] at ko
          have ko' : wr.cell? ⟨g, k, none⟩ = some (.int .i64 (y : Int)) := by rw [hBi.cell hg2]; exact ko
          have k1 : (k : Int) < (n : Int) := by omega
          have k0' : (0 : Int) ≤ (k : Int) := by omega
          have y1 : (y : Int) < l.length := by omega
          have y0' : (0 : Int) ≤ (y : Int) := by omega
          have hpi := (hBi.block _ (by omega)).trans hpr
          rcases HS.out with ⟨_, _, _, _, hnil⟩ | ⟨b, off, cap', hvv, hbF, hcs⟩
          · rw [hnil] at hlt
            simp at hlt
          · obtain ⟨rfl, rfl⟩ : vx = some ⟨b, off, none⟩ ∧ vc = cap' := by simpa using hvv
            have hbl : b < wo.heap.size := by have := hF b hbF; omega
            have kw : ∀ q u, w.cell? ⟨b, q, none⟩ = some u → wr.cell? ⟨b, q, none⟩ = some u := fun q u h => by
              rw [hBi.cell hbl, OW.out.2.cell (show b < w1.heap.size by have := hF b hbF; omega), HP.out.2.cell (hF b hbF)]
              exact h
            have sn := sv_at (w := wr) (b := b) (q := off + n * 11) (s := s) (fun j u hu => kw _ _ (hcs n s hsn j u hu))
            have st := sv_at (w := wr) (b := b) (q := off + y * 11) (s := t) (fun j u hu => kw _ _ (hcs y t hty j u hu))
            have SN := Lib.hid (And.intro sn st)
            have HST := Lib.hid (And.intro hstep dstep)
            clear sn st kw hstep dstep hcs hvv hv hpr
            cases hd : doneB m n (sortP m n) k
            · by_cases hm : m n < m y
              · have hm' : decide (m n < m y) = true := decide_eq_true hm
                have hn' := HST.out.1
                rw [if_pos ⟨hd, hm⟩] at hn'
                have hd' := HST.out.2
                rw [hm', Bool.or_true] at hd'
                have HN := Lib.hid (And.intro hn' hd')
                clear hn' hd' hd
                obtain ⟨⟨a0', a1, a2, a3, a4, a5, a6, a7, a8, a9, a10⟩, b0, b1, b2, b3, b4, b5, b6, b7, b8, b9, b10⟩ := SN.out
                obtain ⟨q0, q1, q2, q3, q4, q5, q6, q7, q8, q9, q10, q11⟩ := twelve_atK hpi
                have r0 := cell_regrown a0'
                have r1 := cell_regrown a1
                have r2 := cell_regrown a2
                have r3 := cell_regrown a3
                have r4 := cell_regrown a4
                have r5 := cell_regrown a5
                have r6 := cell_regrown a6
                have r7 := cell_regrown a7
                have r8 := cell_regrown a8
                have r9 := cell_regrown a9
                have r10 := cell_regrown a10
                have r11 := cell_regrown b0
                have r12 := cell_regrown b1
                have r13 := cell_regrown b2
                have r14 := cell_regrown b3
                have r15 := cell_regrown b4
                have r16 := cell_regrown b5
                have r17 := cell_regrown b6
                have r18 := cell_regrown b7
                have r19 := cell_regrown b8
                have r20 := cell_regrown b9
                have r21 := cell_regrown b10
                have r22 := cell_regrown q0
                have r23 := cell_regrown q1
                have r24 := cell_regrown q2
                have r25 := cell_regrown q3
                have r26 := cell_regrown q4
                have r27 := cell_regrown q5
                have r28 := cell_regrown q6
                have r29 := cell_regrown q7
                have r30 := cell_regrown q8
                have r31 := cell_regrown q9
                have r32 := cell_regrown q10
                have r33 := cell_regrown q11
                have rk := cell_regrown ko'
                have d0 := fun d os => Calls.regrown_of (cs (grow (redrawn wr d) os))
                have d1 := fun d os => Calls.regrown_of (ct (grow (redrawn wr d) os))
                clear a0' a1 a2 a3 a4 a5 a6 a7 a8 a9 a10 b0 b1 b2 b3 b4 b5 b6 b7 b8 b9 b10 q0 q1 q2 q3 q4 q5 q6 q7 q8 q9 q10 q11 ko' cs ct
                go_upto_region 10 with fail
                refine wp_region_quiet_below (by kernel_rfl) (by kernel_rfl) ?_
                repeat (quiet_step (first | (with_reducible exact d0 _ _) | (with_reducible exact d1 _ _)))
                refine wpQuiet_nil ?_
                intro w2 hw
                replace hw := below_again hw
                clear d0 d1 rk r0 r1 r2 r3 r4 r5 r6 r7 r8 r9 r10 r11 r12 r13 r14 r15 r16 r17 r18 r19 r20 r21 r22 r23 r24 r25 r26 r27 r28 r29 r30 r31 r32 r33
                have B2 := hBi.trans (hw.mono zi)
                have own5 := own_kept15 ownN hw
                have z2 := B2.size
                have ko2 : w2.cell? ⟨g, k, none⟩ = some (.int .i64 (y : Int)) := by rw [B2.cell hg2]; exact ko
                go_wp2_with (first | (at_builtin; refine wpList_append_own _ rfl _ _ 47 rfl wo.heap.size 3 i0 _ 1 8 Tryz.underlying47 hi0 hz0 hz1 hz2 rfl (by decide) _ _ _ rfl (own5.alloc _) ⟨w2.heap.size, 0, none⟩ 1 1 [.int .i64 (n : Int)] rfl rfl (new_row15 _ _ _) (by simp [Value.oneCell']) (by (try simp only [List.length_append, List.length_cons, List.length_nil]); unfold maxLen; omega) (by (try simp only [List.length_append, List.length_cons, List.length_nil]); omega) (by first | (rw [World.size_alloc]; omega) | (simp; omega)) ?_; intro v6 w6 hown6 hgrow6 _; have own6 : w6.ownsRow wo.heap.size 3 1 v6 (insA m n (sortP m n) k ++ [n]).length ((insA m n (sortP m n) k ++ [n]).flatMap plE) := (by rw [plE_snoc, List.length_append]; exact hown6); have B6 := (B2.alloc (by omega) (.cells #[.int .i64 (n : Int)] 3)).grown hgrow6 (by first | (rw [World.size_alloc]; omega) | (simp; omega)) (fun g hg => by have := (own5.lt g hg).1; omega); have z6 := B6.size; have ko6 : w6.cell? ⟨g, k, none⟩ = some (.int .i64 (y : Int)) := (by rw [B6.cell hg2]; exact ko)) | (at_builtin; refine wpList_append_own _ rfl _ _ 47 rfl wo.heap.size 3 i0 _ 1 8 Tryz.underlying47 hi0 hz0 hz1 hz2 rfl (by decide) _ _ _ rfl (own6.alloc _) ⟨w6.heap.size, 0, none⟩ 1 1 [.int .i64 (y : Int)] rfl rfl (new_row15 _ _ _) (by simp [Value.oneCell']) (by (try simp only [List.length_append, List.length_cons, List.length_nil]); unfold maxLen; omega) (by (try simp only [List.length_append, List.length_cons, List.length_nil]); omega) (by first | (rw [World.size_alloc]; omega) | (simp; omega)) ?_; intro v7 w7 hown7 hgrow7 _; have own7 : w7.ownsRow wo.heap.size 3 1 v7 ((insA m n (sortP m n) k ++ [n]) ++ [y]).length (((insA m n (sortP m n) k ++ [n]) ++ [y]).flatMap plE) := (by rw [plE_snoc, List.length_append]; exact hown7); have B7 := (B6.alloc (by omega) (.cells #[.int .i64 (y : Int)] 3)).grown hgrow7 (by first | (rw [World.size_alloc]; omega) | (simp; omega)) (fun g hg => by have := (own6.lt g hg).1; omega); have z7 := B7.size))
                go_roundw
                case rel => exact ⟨k + 1, by omega, by go_num, by rw [HN.out.2], by rw [HN.out.1]; exact own7, B7⟩
                case measure => simp [intOf]; omega
              · have hm' : decide (m n < m y) = false := decide_eq_false hm
                have hn' := HST.out.1
                rw [if_neg (fun h => hm h.2)] at hn'
                have hd' := HST.out.2
                rw [hd, hm', Bool.or_false] at hd'
                have HN := Lib.hid (And.intro hn' hd')
                clear hn' hd' hd
                obtain ⟨⟨a0', a1, a2, a3, a4, a5, a6, a7, a8, a9, a10⟩, b0, b1, b2, b3, b4, b5, b6, b7, b8, b9, b10⟩ := SN.out
                obtain ⟨q0, q1, q2, q3, q4, q5, q6, q7, q8, q9, q10, q11⟩ := twelve_atK hpi
                have r0 := cell_regrown a0'
                have r1 := cell_regrown a1
                have r2 := cell_regrown a2
                have r3 := cell_regrown a3
                have r4 := cell_regrown a4
                have r5 := cell_regrown a5
                have r6 := cell_regrown a6
                have r7 := cell_regrown a7
                have r8 := cell_regrown a8
                have r9 := cell_regrown a9
                have r10 := cell_regrown a10
                have r11 := cell_regrown b0
                have r12 := cell_regrown b1
                have r13 := cell_regrown b2
                have r14 := cell_regrown b3
                have r15 := cell_regrown b4
                have r16 := cell_regrown b5
                have r17 := cell_regrown b6
                have r18 := cell_regrown b7
                have r19 := cell_regrown b8
                have r20 := cell_regrown b9
                have r21 := cell_regrown b10
                have r22 := cell_regrown q0
                have r23 := cell_regrown q1
                have r24 := cell_regrown q2
                have r25 := cell_regrown q3
                have r26 := cell_regrown q4
                have r27 := cell_regrown q5
                have r28 := cell_regrown q6
                have r29 := cell_regrown q7
                have r30 := cell_regrown q8
                have r31 := cell_regrown q9
                have r32 := cell_regrown q10
                have r33 := cell_regrown q11
                have rk := cell_regrown ko'
                have d0 := fun d os => Calls.regrown_of (cs (grow (redrawn wr d) os))
                have d1 := fun d os => Calls.regrown_of (ct (grow (redrawn wr d) os))
                clear a0' a1 a2 a3 a4 a5 a6 a7 a8 a9 a10 b0 b1 b2 b3 b4 b5 b6 b7 b8 b9 b10 q0 q1 q2 q3 q4 q5 q6 q7 q8 q9 q10 q11 ko' cs ct
                go_upto_region 10 with fail
                refine wp_region_quiet_below (by kernel_rfl) (by kernel_rfl) ?_
                repeat (quiet_step (first | (with_reducible exact d0 _ _) | (with_reducible exact d1 _ _)))
                refine wpQuiet_nil ?_
                intro w2 hw
                replace hw := below_again hw
                clear d0 d1 rk r0 r1 r2 r3 r4 r5 r6 r7 r8 r9 r10 r11 r12 r13 r14 r15 r16 r17 r18 r19 r20 r21 r22 r23 r24 r25 r26 r27 r28 r29 r30 r31 r32 r33
                have B2 := hBi.trans (hw.mono zi)
                have own5 := own_kept15 ownN hw
                have z2 := B2.size
                have ko2 : w2.cell? ⟨g, k, none⟩ = some (.int .i64 (y : Int)) := by rw [B2.cell hg2]; exact ko
                go_wp2_with (at_builtin; refine wpList_append_own _ rfl _ _ 47 rfl wo.heap.size 3 i0 _ 1 8 Tryz.underlying47 hi0 hz0 hz1 hz2 rfl (by decide) _ _ _ rfl (own5.alloc _) ⟨w2.heap.size, 0, none⟩ 1 1 [.int .i64 (y : Int)] rfl rfl (new_row15 _ _ _) (by simp [Value.oneCell']) (by (try simp only [List.length_append, List.length_cons, List.length_nil]); unfold maxLen; omega) (by (try simp only [List.length_append, List.length_cons, List.length_nil]); omega) (by first | (rw [World.size_alloc]; omega) | (simp; omega)) ?_; intro v6 w6 hown6 hgrow6 _; have own6 : w6.ownsRow wo.heap.size 3 1 v6 (insA m n (sortP m n) k ++ [y]).length ((insA m n (sortP m n) k ++ [y]).flatMap plE) := (by rw [plE_snoc, List.length_append]; exact hown6); have B6 := (B2.alloc (by omega) (.cells #[.int .i64 (y : Int)] 3)).grown hgrow6 (by first | (rw [World.size_alloc]; omega) | (simp; omega)) (fun g hg => by have := (own5.lt g hg).1; omega); have z6 := B6.size)
                go_roundw
                case rel => exact ⟨k + 1, by omega, by go_num, by rw [HN.out.2], by rw [HN.out.1]; exact own6, B6⟩
                case measure => simp [intOf]; omega
            · have hn' := HST.out.1
              rw [if_neg (by rw [hd]; simp)] at hn'
              have hd' := HST.out.2
              rw [hd, Bool.true_or] at hd'
              have HN := Lib.hid (And.intro hn' hd')
              clear hn' hd' hd
              go_wp2_with fail
              go_quiet (fail)
              have BD := below_drewN hBi nq
              have own5 := own_kept15 ownN (w' := wr.drewN nq) (below_drewN (Below.refl _ _) nq)
              have z2 : wo.heap.size ≤ (wr.drewN nq).heap.size := zi
              have ko5 : (wr.drewN nq).cell? ⟨g, k, none⟩ = some (.int .i64 (y : Int)) := ko'
              go_wp2_with (at_builtin; refine wpList_append_own _ rfl _ _ 47 rfl wo.heap.size 3 i0 _ 1 8 Tryz.underlying47 hi0 hz0 hz1 hz2 rfl (by decide) _ _ _ rfl (own5.alloc _) ⟨(wr.drewN nq).heap.size, 0, none⟩ 1 1 [.int .i64 (y : Int)] rfl rfl (new_row15 _ _ _) (by simp [Value.oneCell']) (by (try simp only [List.length_append, List.length_cons, List.length_nil]); unfold maxLen; omega) (by (try simp only [List.length_append, List.length_cons, List.length_nil]); omega) (by first | (rw [World.size_alloc]; omega) | (simp; omega)) ?_; intro v6 w6 hown6 hgrow6 _; have own6 : w6.ownsRow wo.heap.size 3 1 v6 (insA m n (sortP m n) k ++ [y]).length ((insA m n (sortP m n) k ++ [y]).flatMap plE) := (by rw [plE_snoc, List.length_append]; exact hown6); have B6 := (BD.alloc (by omega) (.cells #[.int .i64 (y : Int)] 3)).grown hgrow6 (by first | (rw [World.size_alloc]; omega) | (simp; omega)) (fun g hg => by have := (own5.lt g hg).1; omega); have z6 := B6.size)
              go_roundw
              case rel => exact ⟨k + 1, by omega, by go_num, by rw [HN.out.2], by rw [HN.out.1]; exact own6, B6⟩
              case measure => simp [intOf]; omega
        · have ekn : n = k := by omega
          subst ekn
          have hend := insA_end (m := m) (i := n) (l := sortP m n)
          rw [hsl] at hend
          have hnx := sortP_next m n
          cases hd : doneB m n (sortP m n) n
          · rw [hd, if_neg (by simp)] at hend
            have HN := Lib.hid (hnx.trans hend)
            clear hnx hend hd
            go_wp2_with (at_builtin; refine wpList_append_own _ rfl _ _ 47 rfl wo.heap.size 3 i0 _ 1 8 Tryz.underlying47 hi0 hz0 hz1 hz2 rfl (by decide) _ _ _ rfl (ownN.alloc _) ⟨wr.heap.size, 0, none⟩ 1 1 [.int .i64 (n : Int)] rfl rfl (new_row15 _ _ _) (by simp [Value.oneCell']) (by (try simp only [List.length_append, List.length_cons, List.length_nil]); unfold maxLen; omega) (by (try simp only [List.length_append, List.length_cons, List.length_nil]); omega) (by first | (rw [World.size_alloc]; omega) | (simp; omega)) ?_; intro v6 w6 hown6 hgrow6 _; have own6 : w6.ownsRow wo.heap.size 3 1 v6 (insA m n (sortP m n) n ++ [n]).length ((insA m n (sortP m n) n ++ [n]).flatMap plE) := (by rw [plE_snoc, List.length_append]; exact hown6); have B6 := (hBi.alloc (by omega) (.cells #[.int .i64 (n : Int)] 3)).grown hgrow6 (by first | (rw [World.size_alloc]; omega) | (simp; omega)) (fun g hg => by have := (ownN.lt g hg).1; omega); have z6 := B6.size)
            go_roundw
            case rel => exact ⟨n + 1, by omega, by go_num, by rw [HN.out]; exact own6.mono z1, OW.out.2.trans (B6.mono z1)⟩
            case measure => simp [intOf]; omega
          · rw [hd, if_pos rfl] at hend
            have HN := Lib.hid (hnx.trans hend)
            clear hnx hend hd
            go_wp2_with fail
            go_roundw
            case rel => exact ⟨n + 1, by omega, by go_num, by rw [HN.out]; exact ownN.mono z1, OW.out.2.trans (hBi.mono z1)⟩
            case measure => simp [intOf]; omega
    · have enl : n = l.length := by omega
      have SO : SlAt (fun b => w1.heap.size ≤ b ∧ b < wo.heap.size) 1 plE wo (.slice xo n co) (sortP m n) := by
        have h9 := SlAt.own plE_length OL.out
        rwa [hsl] at h9
      have HSO := Lib.hid SO
      clear SO
      subst enl
      clear own
      have BW := Lib.hid hB
      clear hB
      go_wp2_with fail
      go_ret
      have bz := HP.out.2.size
      exact ⟨_, rfl, HSO.out.mono (fun b h => ⟨by have := h.1; omega, h.2⟩), HP.out.2.trans (BW.out.mono bz)⟩
end Go.Proofs.YtkjecjehphgpjaaGreat.W

