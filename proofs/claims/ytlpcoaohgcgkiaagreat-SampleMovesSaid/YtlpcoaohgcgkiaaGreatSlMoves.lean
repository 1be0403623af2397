/- SampleMoves: a sample of small numbers, corrected and aged. No condition. -/
import Derived.Test.YtlpcoaohgcgkiaaGreatSmZ
import Derived.WalkKit
import Derived.WalkSpells
import Derived.WalkLawsBesides
import Derived.Lib.Hide
import Derived.Handy
import Derived.ProofKit
import Derived.OpenShut
import Derived.ShutString
import Derived.ChangeOld
import Derived.Below
namespace Go.Proofs.YtlpcoaohgcgkiaaGreat.SampleMoves
open Go.Proofs.YtlpcoaohgcgkiaaGreat.W
open Go.ChangeShapes Go.WideShapes Go.ChangeAt Go.RowKit
open Go.ChangeMaps (open_string shut_string)
set_option linter.unusedVariables false
theorem own : ownKnob Tryz.prog.godebug = none := by kernel_rfl
theorem laidOut : laidOutB Tryz.prog = true := by kernel_rfl
open Go.Sort
set_option linter.unusedSimpArgs false
theorem two_cells {w : World} {p : Nat} {a b : Value} {t : TypeId} (h : w.heap[p]? = some (.cells #[a, b] t (0, 0))) : w.cell? ⟨p, 0, none⟩ = some a ∧ w.cell? ⟨p, 1, none⟩ = some b := by
  refine ⟨?_, ?_⟩ <;> simp [World.cell?, h]
set_option maxRecDepth 100000 in
set_option maxHeartbeats 25600000 in
theorem walk (o d x T a l : Int) (w : World) (wo : (Lit.int .u32 o).wf = true) (wd : (Lit.int .u32 d).wf = true) (wx : (Lit.int .u32 x).wf = true) (wT : (Lit.int .i32 T).wf = true) (wa : (Lit.int .u32 a).wf = true) (wl : (Lit.int .u32 l).wf = true) :
    Calls Tryz.prog 5 #[.int .u32 o, .int .u32 d, .int .u32 x, .int .i32 T, .int .u32 a, .int .u32 l] w fun e w' => e = .returned (.bool true) ∧ Below w.heap.size w w' := by
  have o0 := u32_bounds wo
  have d0 := u32_bounds wd
  have x0 := u32_bounds wx
  have a0 := u32_bounds wa
  have l0 := u32_bounds wl
  have T0 : -2147483648 ≤ T ∧ T ≤ 2147483647 := by have := bounds_i32 wT; omega
  clear wo wd wx wT wa wl
  have c1 := std13_any
  have H := std_params
  have hf := std_phi
  generalize chkP stdC = p at *
  have ts : Smp.Typed ⟨o, d, x, a, 0⟩ := ⟨by dsimp only; omega, by dsimp only; omega, by dsimp only; omega, by dsimp only; omega, by dsimp only; omega⟩
  have c2 := sspan_any p H.typed _ ts (by dsimp only; omega) a 0 (by omega) (by omega)
  have c3 := sspan_any p H.typed _ ts (by dsimp only; omega) (a + l * 1000) 0 (by omega) (by omega)
  have c4 := sspan_any p H.typed _ ts (by dsimp only; omega) a T (by omega) (by omega)
  have c5 := smove_any _ ts T (by omega)
  have c6 := sage_any p H.typed _ ts 4611686018427387904 (by omega)
  have c7 := shown13_any
  obtain ⟨f1, f2, f3, f4, f5, f6, f7, f8, f9, f10⟩ := moves_true hf o0 d0 x0 a0 l0 T0
  rw [f2, f3] at c4
  rw [f1] at c5
  rw [f8] at c6
  clear f1 f2 f3 f8 hf H ts
  generalize spanL p ⟨o, d, x, a, 0⟩ a 0 = aL at *
  generalize spanH p ⟨o, d, x, a, 0⟩ a 0 = aH at *
  generalize spanL p ⟨o, d, x, a, 0⟩ (a + l * 1000) 0 = bL at *
  generalize spanH p ⟨o, d, x, a, 0⟩ (a + l * 1000) 0 = bH at *
  unfold Pm.val Smp.val at *
  dsimp only at c2 c3 c4 c5 c6
  have hA1 := (Below.refl w.heap.size w).alloc (Nat.le_refl _) (.cells #[.int .i64 o, .int .i64 d, .int .i64 x, .int .i64 a, .int .i64 0] 29)
  have hs1 := heap_alloc_new w (.cells #[.int .i64 o, .int .i64 d, .int .i64 x, .int .i64 a, .int .i64 0] 29)
  go_enter Tryz.func5, Tryz.ntmps5
  go_upto_region 2 with fail
  generalize w.alloc (.cells #[.int .i64 o, .int .i64 d, .int .i64 x, .int .i64 a, .int .i64 0] 29) = u0 at *
  go_wp2_with fail
  (with_reducible refine (c1 _).mono ?_)
  rintro e u1 ⟨rfl, hB1⟩
  have hq1 := hA1.trans (hB1.mono hA1.size)
  have hq2 := hq1.alloc hq1.size (.cells #[.int .i64 p.step, .int .i64 p.watch, .int .i64 p.panic, .int .i64 p.maxrate, .int .i64 p.phi, .int .i64 p.maxdist, .int .i64 p.gate, .int .i64 p.minpoll, .int .i64 p.maxpoll, .int .i64 p.burst, .int .i64 p.minsane, .int .i64 p.minleft] 23)
  have hs2 := laid (.cells #[.int .i64 p.step, .int .i64 p.watch, .int .i64 p.panic, .int .i64 p.maxrate, .int .i64 p.phi, .int .i64 p.maxdist, .int .i64 p.gate, .int .i64 p.minpoll, .int .i64 p.maxpoll, .int .i64 p.burst, .int .i64 p.minsane, .int .i64 p.minleft] 23) (kept hs1 hB1)
  have hp2 := heap_alloc_new u1 (.cells #[.int .i64 p.step, .int .i64 p.watch, .int .i64 p.panic, .int .i64 p.maxrate, .int .i64 p.phi, .int .i64 p.maxdist, .int .i64 p.gate, .int .i64 p.minpoll, .int .i64 p.maxpoll, .int .i64 p.burst, .int .i64 p.minsane, .int .i64 p.minleft] 23)
  clear hs1 hA1 hB1 hq1 c1
  go_upto_region 3 with fail
  generalize u1.alloc (.cells #[.int .i64 p.step, .int .i64 p.watch, .int .i64 p.panic, .int .i64 p.maxrate, .int .i64 p.phi, .int .i64 p.maxdist, .int .i64 p.gate, .int .i64 p.minpoll, .int .i64 p.maxpoll, .int .i64 p.burst, .int .i64 p.minsane, .int .i64 p.minleft] 23) = u2 at *
  generalize u1.heap.size = bp at *
  obtain ⟨q0, q1, q2, q3, q4, q5, q6, q7, q8, q9, q10, q11⟩ := twelve_at hp2
  obtain ⟨s0, s1, s2, s3, s4⟩ := five_in hs2
  go_wp2_with fail
  (with_reducible refine (c2 _).mono ?_)
  rintro e u3 ⟨rfl, hB3⟩
  have hq3 := hq2.trans (hB3.mono hq2.size)
  have hq4 := hq3.alloc hq3.size (.cells #[.int .i64 aL, .int .i64 aH] 40)
  have hs4 := laid (.cells #[.int .i64 aL, .int .i64 aH] 40) (kept hs2 hB3)
  have hp4 := laid (.cells #[.int .i64 aL, .int .i64 aH] 40) (kept hp2 hB3)
  have ha4 := heap_alloc_new u3 (.cells #[.int .i64 aL, .int .i64 aH] 40)
  clear q0 q1 q2 q3 q4 q5 q6 q7 q8 q9 q10 q11 s0 s1 s2 s3 s4 hs2 hp2 hq2 hB3 hq3 c2
  go_upto_region 4 with fail
  generalize u3.alloc (.cells #[.int .i64 aL, .int .i64 aH] 40) = u4 at *
  generalize u3.heap.size = ba at *
  obtain ⟨q0, q1, q2, q3, q4, q5, q6, q7, q8, q9, q10, q11⟩ := twelve_at hp4
  obtain ⟨s0, s1, s2, s3, s4⟩ := five_in hs4
  go_wp2_with fail
  (with_reducible refine (c3 _).mono ?_)
  rintro e u5 ⟨rfl, hB5⟩
  have hq5 := hq4.trans (hB5.mono hq4.size)
  have hq6 := hq5.alloc hq5.size (.cells #[.int .i64 bL, .int .i64 bH] 40)
  have hs6 := laid (.cells #[.int .i64 bL, .int .i64 bH] 40) (kept hs4 hB5)
  have hp6 := laid (.cells #[.int .i64 bL, .int .i64 bH] 40) (kept hp4 hB5)
  have ha6 := laid (.cells #[.int .i64 bL, .int .i64 bH] 40) (kept ha4 hB5)
  have hb6 := heap_alloc_new u5 (.cells #[.int .i64 bL, .int .i64 bH] 40)
  clear q0 q1 q2 q3 q4 q5 q6 q7 q8 q9 q10 q11 s0 s1 s2 s3 s4 hs4 hp4 ha4 hq4 hB5 hq5 c3
  go_upto_region 5 with fail
  generalize u5.alloc (.cells #[.int .i64 bL, .int .i64 bH] 40) = u6 at *
  generalize u5.heap.size = bb at *
  obtain ⟨q0, q1, q2, q3, q4, q5, q6, q7, q8, q9, q10, q11⟩ := twelve_at hp6
  obtain ⟨s0, s1, s2, s3, s4⟩ := five_in hs6
  go_wp2_with fail
  (with_reducible refine (c4 _).mono ?_)
  rintro e u7 ⟨rfl, hB7⟩
  have hq7 := hq6.trans (hB7.mono hq6.size)
  have hq8 := hq7.alloc hq7.size (.cells #[.int .i64 (aL - T), .int .i64 (aH - T)] 40)
  have hs8 := laid (.cells #[.int .i64 (aL - T), .int .i64 (aH - T)] 40) (kept hs6 hB7)
  have hp8 := laid (.cells #[.int .i64 (aL - T), .int .i64 (aH - T)] 40) (kept hp6 hB7)
  have ha8 := laid (.cells #[.int .i64 (aL - T), .int .i64 (aH - T)] 40) (kept ha6 hB7)
  have hb8 := laid (.cells #[.int .i64 (aL - T), .int .i64 (aH - T)] 40) (kept hb6 hB7)
  have hc8 := heap_alloc_new u7 (.cells #[.int .i64 (aL - T), .int .i64 (aH - T)] 40)
  clear q0 q1 q2 q3 q4 q5 q6 q7 q8 q9 q10 q11 s0 s1 s2 s3 s4 hs6 hp6 ha6 hb6 hq6 hB7 hq7 c4
  go_upto_region 6 with fail
  generalize u7.alloc (.cells #[.int .i64 (aL - T), .int .i64 (aH - T)] 40) = u8 at *
  generalize u7.heap.size = bc at *
  obtain ⟨s0, s1, s2, s3, s4⟩ := five_in hs8
  go_wp2_with fail
  (with_reducible refine (c5 _).mono ?_)
  rintro e u9 ⟨rfl, hB9⟩
  have hq9 := hq8.trans (hB9.mono hq8.size)
  have hs9 := kept hs8 hB9
  have hp9 := kept hp8 hB9
  have ha9 := kept ha8 hB9
  have hb9 := kept hb8 hB9
  have hc9 := kept hc8 hB9
  clear s0 s1 s2 s3 s4 hs8 hp8 ha8 hb8 hc8 hq8 hB9 c5
  obtain ⟨k0, k1⟩ := two_cells ha9
  obtain ⟨m0, m1⟩ := two_cells hc9
  go_wp2_with fail
  (with_reducible refine (c7 _).mono ?_)
  rintro e v1 ⟨rfl, hBv⟩
  have hqv := hq9.trans (hBv.mono hq9.size)
  have hsv := kept hs9 hBv
  have hpv := kept hp9 hBv
  have hav := kept ha9 hBv
  have hbv := kept hb9 hBv
  clear k0 k1 m0 m1 hs9 hp9 ha9 hb9 hc9 hq9 hBv c7
  obtain ⟨q0, q1, q2, q3, q4, q5, q6, q7, q8, q9, q10, q11⟩ := twelve_at hpv
  obtain ⟨s0, s1, s2, s3, s4⟩ := five_in hsv
  obtain ⟨k0, k1⟩ := two_cells hav
  obtain ⟨m0, m1⟩ := two_cells hbv
  clear hpv hsv hav hbv
  go_wp2_with fail
  (with_reducible refine (c6 _).mono ?_)
  rintro e v2 ⟨rfl, hBe⟩
  have hqe := hqv.trans (hBe.mono hqv.size)
  go_wp2_with fail
  go_ret
  exact ⟨rfl, hqe⟩
set_option maxRecDepth 100000 in
theorem lifted (os : Os) (started : os.Started) (H : Type) (enc : TypeId × Value → H) :
    ReturnsInHanded {} Tryz.checked os 5 .any (Rows.sampleMovesSpec.pre6 enc Tryz.prog Tryz.f5 Rows.sampleMovesRow.domain false) (Rows.sampleMovesSpec.post enc Tryz.prog Tryz.f5 false true false false) := by
  refine returnsInHanded_of_change (C := Tryz.checked) own started (by kernel_rfl) Tryz.func5
    (ChangeSpec.witness6 (enc := enc) (C := Tryz.checked) false ⟨#[], #[.int .u32 0, .int .u32 0, .int .u32 0, .int .i32 0, .int .u32 0, .int .u32 0], []⟩ 8 (by kernel_rfl) (by kernel_rfl) (by kernel_rfl) (by kernel_rfl)) ?_
  intro W base args ds gs before hval0 hW hcnd _
  have hval : ∀ (j : Nat) t v, Tryz.f5.params[j]? = some t → args[j]? = some v → Value.okWide Tryz.prog W .any base t v := hval0
  have hW' := hW
  obtain ⟨p, q, hA0, hV, rfl, hfz, hnd⟩ := hW
  have hA : DataW.TrodAll enc Tryz.prog W 0 (fun _ => true) true Tryz.f5.params.toList args.toList ds p := hA0
  rw [Tryz.params5] at hA hval
  obtain ⟨v0, vs0, d0, ds0, p0, q0, hargs, rfl, rfl, h0, r0⟩ := trodAll_cons hA
  obtain ⟨v1, vs1, d1, ds1, p1, q1, rfl, rfl, rfl, h1, r1⟩ := trodAll_cons r0
  obtain ⟨v2, vs2, d2, ds2, p2, q2, rfl, rfl, rfl, h2, r2⟩ := trodAll_cons r1
  obtain ⟨v3, vs3, d3, ds3, p3, q3, rfl, rfl, rfl, h3, r3⟩ := trodAll_cons r2
  obtain ⟨v4, vs4, d4, ds4, p4, q4, rfl, rfl, rfl, h4, r4⟩ := trodAll_cons r3
  obtain ⟨v5, vs5, d5, ds5, p5, q5, rfl, rfl, rfl, h5, r5⟩ := trodAll_cons r4
  obtain ⟨rfl, rfl, rfl⟩ := trodAll_nil r5
  obtain rfl : args = #[v0, v1, v2, v3, v4, v5] := by cases args; simp_all
  obtain ⟨rfl, rfl⟩ := trodVars_none hV
  obtain ⟨a0, rfl, rfl, rfl, w0⟩ := open_int Tryz.underlying24 (hval 0 24 v0 rfl rfl) h0
  obtain ⟨a1, rfl, rfl, rfl, w1⟩ := open_int Tryz.underlying24 (hval 1 24 v1 rfl rfl) h1
  obtain ⟨a2, rfl, rfl, rfl, w2⟩ := open_int Tryz.underlying24 (hval 2 24 v2 rfl rfl) h2
  obtain ⟨a3, rfl, rfl, rfl, w3⟩ := open_int Tryz.underlying21 (hval 3 21 v3 rfl rfl) h3
  obtain ⟨a4, rfl, rfl, rfl, w4⟩ := open_int Tryz.underlying24 (hval 4 24 v4 rfl rfl) h4
  obtain ⟨a5, rfl, rfl, rfl, w5⟩ := open_int Tryz.underlying24 (hval 5 24 v5 rfl rfl) h5
  clear hA0 hval0
  refine (walk a0 a1 a2 a3 a4 a5 W w0 w1 w2 w3 w4 w5).mono fun e W' ⟨he, bel⟩ => ?_
  subst he
  exact ⟨_, rfl, _, _, _, [], _, [], hW', trodAll_mk1 (shut_bool Tryz.underlying4 _), (trodAll_cons_mk (shut_int Tryz.underlying24 w0) (trodAll_cons_mk (shut_int Tryz.underlying24 w1) (trodAll_cons_mk (shut_int Tryz.underlying24 w2) (trodAll_cons_mk (shut_int Tryz.underlying21 w3) (trodAll_cons_mk (shut_int Tryz.underlying24 w4) (trodAll_cons_mk (shut_int Tryz.underlying24 w5) trodAll_mk0)))))), rfl, bel.frame _, fun h => by cases h⟩

theorem over : Rows.sampleMovesRow.holds Tryz.pinned (OpenSpec.ofChange Rows.sampleMovesSpec) :=
  OpenClaim.holds_of_wide 5 Tryz.f5 rfl rfl rfl rfl rfl rfl rfl ⟨rfl, rfl, rfl, rfl, rfl⟩ rfl rfl rfl rfl rfl (by kernel_rfl) Tryz.func5 (by kernel_rfl)
    (of_decide_eq_true (by kernel_rfl)) (by unfold Func.isWrapper; first | (rw [if_pos (by decide +kernel)]; kernel_rfl) | (rw [if_neg (by decide +kernel)]; exact ⟨rfl, rfl⟩))
    (fun os started H enc _ => lifted os started H enc)

theorem proved : Rows.SampleMovesSaid := over
end Go.Proofs.YtlpcoaohgcgkiaaGreat.SampleMoves
