/- SampleAges: for every sample and two times its dispersion never gets less. No condition. -/
import Derived.Test.YtlpcoaohgcgkiaaSmZ
import Derived.WalkKit
import Derived.WalkSpells
import Derived.WalkLawsBesides
import Derived.Lib.Hide
import Derived.Handy
import Derived.ProofKit
import Derived.OpenShut
import Derived.ShutString
import Derived.ChangeOld
import Derived.Below
namespace Go.Proofs.Ytlpcoaohgcgkiaa.SampleAges
open Go.Proofs.Ytlpcoaohgcgkiaa.W
open Go.ChangeShapes Go.WideShapes Go.ChangeAt Go.RowKit
open Go.ChangeMaps (open_string shut_string)
set_option linter.unusedVariables false
theorem own : ownKnob Try.prog.godebug = none := by kernel_rfl
theorem laidOut : laidOutB Try.prog = true := by kernel_rfl
open Go.Sort
set_option linter.unusedSimpArgs false
set_option maxRecDepth 100000 in
set_option maxHeartbeats 25600000 in
theorem walk (s : Smp) (a b : Int) (w : World) (ts : s.Typed) (wa : (Lit.int .i64 a).wf = true) (wb : (Lit.int .i64 b).wf = true) :
    Calls Try.prog 3 #[s.val, .int .i64 a, .int .i64 b] w fun e w' => e = .returned (.bool true) ∧ Below w.heap.size w w' := by
  have a0 : -9223372036854775808 ≤ a ∧ a ≤ 9223372036854775807 := by have := bounds_i64 wa; omega
  have b0 : -9223372036854775808 ≤ b ∧ b ≤ 9223372036854775807 := by have := bounds_i64 wb; omega
  clear wa wb
  have c1 := std13_any
  have H := std_params
  have hf : 0 ≤ (chkP stdC).phi := by rw [std_phi]; decide
  generalize chkP stdC = p at *
  have c2 := sage_any p H.typed s ts (min a b) (by omega)
  have c3 := sage_any p H.typed s ts (max a b) (by omega)
  have c4 := sage_any p H.typed s ts s.at_ ts.at_
  have c5 := shown13_any
  have hxy := age_mono hf s (show min a b ≤ max a b by omega)
  have hy := (age_range p s (max a b)).2
  have hz := age_own p s ts
  rw [hz] at c4
  generalize ageI p s (min a b) = x at *
  generalize ageI p s (max a b) = y at *
  have td := ts.disp
  clear hz hf H
  unfold Pm.val Smp.val at *
  have hA1 := (Below.refl w.heap.size w).alloc (Nat.le_refl _) (.cells #[.int .i64 s.off, .int .i64 s.del, .int .i64 s.disp, .int .i64 s.at_, .int .i64 s.total] 23)
  have hs1 := heap_alloc_new w (.cells #[.int .i64 s.off, .int .i64 s.del, .int .i64 s.disp, .int .i64 s.at_, .int .i64 s.total] 23)
  have hcase : (a < b ∧ min a b = a ∧ max a b = b) ∨ (a = b ∧ min a b = a ∧ max a b = a) ∨ (b < a ∧ min a b = b ∧ max a b = a) := by omega
  have hdcase : (s.disp < -9223372036854775807 ∧ min (max s.disp (-9223372036854775807)) 68719476736 = -9223372036854775807) ∨ (-9223372036854775807 ≤ s.disp ∧ s.disp ≤ 68719476736 ∧ min (max s.disp (-9223372036854775807)) 68719476736 = s.disp) ∨ (68719476736 < s.disp ∧ min (max s.disp (-9223372036854775807)) 68719476736 = 68719476736) := by omega
  generalize min (max s.disp (-9223372036854775807)) 68719476736 = z at *
  have go : ∀ m n : Int, (∀ w, Calls Try.prog 5 #[.agg #[.int .i64 p.step, .int .i64 p.watch, .int .i64 p.panic, .int .i64 p.maxrate, .int .i64 p.phi, .int .i64 p.maxdist, .int .i64 p.gate, .int .i64 p.minpoll, .int .i64 p.maxpoll, .int .i64 p.burst, .int .i64 p.minsane, .int .i64 p.minleft], .agg #[.int .i64 s.off, .int .i64 s.del, .int .i64 s.disp, .int .i64 s.at_, .int .i64 s.total], .int .i64 m] w fun e w' => e = .returned (.int .i64 x) ∧ Below w.heap.size w w') → (∀ w, Calls Try.prog 5 #[.agg #[.int .i64 p.step, .int .i64 p.watch, .int .i64 p.panic, .int .i64 p.maxrate, .int .i64 p.phi, .int .i64 p.maxdist, .int .i64 p.gate, .int .i64 p.minpoll, .int .i64 p.maxpoll, .int .i64 p.burst, .int .i64 p.minsane, .int .i64 p.minleft], .agg #[.int .i64 s.off, .int .i64 s.del, .int .i64 s.disp, .int .i64 s.at_, .int .i64 s.total], .int .i64 n] w fun e w' => e = .returned (.int .i64 y) ∧ Below w.heap.size w w') → ((a < b ∧ m = a ∧ n = b) ∨ (a = b ∧ m = a ∧ n = a) ∨ (b < a ∧ m = b ∧ n = a)) →
      Calls Try.prog 3 #[.agg #[.int .i64 s.off, .int .i64 s.del, .int .i64 s.disp, .int .i64 s.at_, .int .i64 s.total], .int .i64 a, .int .i64 b] w fun e w' => e = .returned (.bool true) ∧ Below w.heap.size w w' := by
    clear c2 c3 hcase a0 b0
    intro m n c2 c3 hcase
    rcases hcase with ⟨hab, rfl, rfl⟩ | ⟨rfl, rfl, rfl⟩ | ⟨hab, rfl, rfl⟩
    all_goals
      rcases hdcase with ⟨hd1, rfl⟩ | ⟨hd1, hd2, rfl⟩ | ⟨hd1, rfl⟩
      all_goals
        go_enter Try.func3, Try.ntmps3
        go_upto_region 1 with fail
        generalize w.alloc (.cells #[.int .i64 s.off, .int .i64 s.del, .int .i64 s.disp, .int .i64 s.at_, .int .i64 s.total] 23) = u0 at *
        go_wp2_with fail
        (with_reducible refine (c1 _).mono ?_)
        rintro e u1 ⟨rfl, hB1⟩
        have hq1 := hA1.trans (hB1.mono hA1.size)
        have hq2 := hq1.alloc hq1.size (.cells #[.int .i64 p.step, .int .i64 p.watch, .int .i64 p.panic, .int .i64 p.maxrate, .int .i64 p.phi, .int .i64 p.maxdist, .int .i64 p.gate, .int .i64 p.minpoll, .int .i64 p.maxpoll, .int .i64 p.burst, .int .i64 p.minsane, .int .i64 p.minleft] 25)
        have hs2 := laid (.cells #[.int .i64 p.step, .int .i64 p.watch, .int .i64 p.panic, .int .i64 p.maxrate, .int .i64 p.phi, .int .i64 p.maxdist, .int .i64 p.gate, .int .i64 p.minpoll, .int .i64 p.maxpoll, .int .i64 p.burst, .int .i64 p.minsane, .int .i64 p.minleft] 25) (kept hs1 hB1)
        have hp2 := heap_alloc_new u1 (.cells #[.int .i64 p.step, .int .i64 p.watch, .int .i64 p.panic, .int .i64 p.maxrate, .int .i64 p.phi, .int .i64 p.maxdist, .int .i64 p.gate, .int .i64 p.minpoll, .int .i64 p.maxpoll, .int .i64 p.burst, .int .i64 p.minsane, .int .i64 p.minleft] 25)
        clear hs1 hA1 hB1 hq1 c1
        go_upto_region 2 with fail
        generalize u1.alloc (.cells #[.int .i64 p.step, .int .i64 p.watch, .int .i64 p.panic, .int .i64 p.maxrate, .int .i64 p.phi, .int .i64 p.maxdist, .int .i64 p.gate, .int .i64 p.minpoll, .int .i64 p.maxpoll, .int .i64 p.burst, .int .i64 p.minsane, .int .i64 p.minleft] 25) = u2 at *
        generalize u1.heap.size = bp at *
        obtain ⟨q0, q1, q2, q3, q4, q5, q6, q7, q8, q9, q10, q11⟩ := twelve_at hp2
        obtain ⟨s0, s1, s2, s3, s4⟩ := five_in hs2
        go_wp2_with fail
        (with_reducible refine (c2 _).mono ?_)
        rintro e u3 ⟨rfl, hB3⟩
        have hq3 := hq2.trans (hB3.mono hq2.size)
        have hs3 := kept hs2 hB3
        have hp3 := kept hp2 hB3
        clear q0 q1 q2 q3 q4 q5 q6 q7 q8 q9 q10 q11 s0 s1 s2 s3 s4 hs2 hp2 hq2 hB3 c2
        obtain ⟨q0, q1, q2, q3, q4, q5, q6, q7, q8, q9, q10, q11⟩ := twelve_at hp3
        obtain ⟨s0, s1, s2, s3, s4⟩ := five_in hs3
        go_wp2_with fail
        (with_reducible refine (c3 _).mono ?_)
        rintro e u4 ⟨rfl, hB4⟩
        have hq4 := hq3.trans (hB4.mono hq3.size)
        have hs4 := kept hs3 hB4
        have hp4 := kept hp3 hB4
        clear q0 q1 q2 q3 q4 q5 q6 q7 q8 q9 q10 q11 s0 s1 s2 s3 s4 hs3 hp3 hq3 hB4 c3
        obtain ⟨q0, q1, q2, q3, q4, q5, q6, q7, q8, q9, q10, q11⟩ := twelve_at hp4
        obtain ⟨s0, s1, s2, s3, s4⟩ := five_in hs4
        go_wp2_with fail
        (with_reducible refine (c4 _).mono ?_)
        rintro e u5 ⟨rfl, hB5⟩
        have hq5 := hq4.trans (hB5.mono hq4.size)
        have hs5 := kept hs4 hB5
        clear q0 q1 q2 q3 q4 q5 q6 q7 q8 q9 q10 q11 s0 s1 s2 s3 s4 hs4 hp4 hq4 hB5 c4
        obtain ⟨s0, s1, s2, s3, s4⟩ := five_in hs5
        go_wp2_with fail
        (with_reducible refine (c5 _).mono ?_)
        rintro e u6 ⟨rfl, hB6⟩
        have hq6 := hq5.trans (hB6.mono hq5.size)
        go_wp2_with fail
        go_ret
        exact ⟨rfl, hq6⟩
  exact go _ _ c2 c3 hcase
set_option maxRecDepth 100000 in
theorem lifted (os : Os) (started : os.Started) (H : Type) (enc : TypeId × Value → H) :
    ReturnsInHanded {} Try.checked os 3 .any (Rows.sampleAgesSpec.pre6 enc Try.prog Try.f3 Rows.sampleAgesRow.domain false) (Rows.sampleAgesSpec.post enc Try.prog Try.f3 false true false false) := by
  refine returnsInHanded_of_change (C := Try.checked) own started (by kernel_rfl) Try.func3
    (ChangeSpec.witness6 (enc := enc) (C := Try.checked) false ⟨#[], #[.agg #[.int .i64 0, .int .i64 0, .int .i64 0, .int .i64 0, .int .i64 0], .int .i64 0, .int .i64 0], []⟩ 8 (by kernel_rfl) (by kernel_rfl) (by kernel_rfl) (by kernel_rfl)) ?_
  intro W base args ds gs before hval0 hW hcnd _
  have hval : ∀ (j : Nat) t v, Try.f3.params[j]? = some t → args[j]? = some v → Value.okWide Try.prog W .any base t v := hval0
  have hW' := hW
  obtain ⟨p, q, hA0, hV, rfl, hfz, hnd⟩ := hW
  have hA : DataW.TrodAll enc Try.prog W 0 (fun _ => true) true Try.f3.params.toList args.toList ds p := hA0
  rw [Try.params3] at hA hval
  obtain ⟨v0, vs0, d0, ds0, p0, q0, hargs, rfl, rfl, h0, r0⟩ := trodAll_cons hA
  obtain ⟨v1, vs1, d1, ds1, p1, q1, rfl, rfl, rfl, h1, r1⟩ := trodAll_cons r0
  obtain ⟨v2, vs2, d2, ds2, p2, q2, rfl, rfl, rfl, h2, r2⟩ := trodAll_cons r1
  obtain ⟨rfl, rfl, rfl⟩ := trodAll_nil r2
  obtain rfl : args = #[v0, v1, v2] := by cases args; simp_all
  obtain ⟨rfl, rfl⟩ := trodVars_none hV
  have k0 := h0
  have lt0 : ∀ x ∈ p0, x.block < W.heap.size := by obtain ⟨m, hm⟩ := k0; exact DataW.trod_lt m _ _ _ hm
  obtain ⟨a0, rfl, w0⟩ := open_smp (hval 0 23 v0 rfl rfl) h0
  obtain ⟨a1, rfl, rfl, rfl, w1⟩ := open_int Try.underlying2 (hval 1 2 v1 rfl rfl) h1
  obtain ⟨a2, rfl, rfl, rfl, w2⟩ := open_int Try.underlying2 (hval 2 2 v2 rfl rfl) h2
  clear hA0 hval0
  refine (walk a0 a1 a2 W w0 w1 w2).mono fun e W' ⟨he, bel⟩ => ?_
  subst he
  exact ⟨_, rfl, _, _, _, [], _, [], hW', trodAll_mk1 (shut_bool Try.underlying4 _), (trodAll_cons_mk (Below.trod laidOut (by kernel_rfl) (of_decide_eq_true (by kernel_rfl)) k0 bel lt0) (trodAll_cons_mk (shut_int Try.underlying2 w1) (trodAll_cons_mk (shut_int Try.underlying2 w2) trodAll_mk0))), rfl, bel.frame _, fun h => by cases h⟩

theorem over : Rows.sampleAgesRow.holds Try.pinned (OpenSpec.ofChange Rows.sampleAgesSpec) :=
  OpenClaim.holds_of_wide 3 Try.f3 rfl rfl rfl rfl rfl rfl rfl ⟨rfl, rfl, rfl, rfl, rfl⟩ rfl rfl rfl rfl rfl (by kernel_rfl) Try.func3 (by kernel_rfl)
    (of_decide_eq_true (by kernel_rfl)) (by unfold Func.isWrapper; first | (rw [if_pos (by decide +kernel)]; kernel_rfl) | (rw [if_neg (by decide +kernel)]; exact ⟨rfl, rfl⟩))
    (fun os started H enc _ => lifted os started H enc)

theorem proved : Rows.SampleAgesSaid := over
end Go.Proofs.Ytlpcoaohgcgkiaa.SampleAges
