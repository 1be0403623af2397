/- SampleMakes: for every settings, precision, answer and time the sample or the error is the document's. No condition. -/
import Derived.Test.YtlpcoaohgcgkiaaGreatSmB
import Derived.Test.YtlpcoaohgcgkiaaGreatSmZ
import Derived.WalkKit
import Derived.WalkSpells
import Derived.WalkLawsBesides
import Derived.Lib.Hide
import Derived.Handy
import Derived.ProofKit
import Derived.OpenShut
import Derived.ShutString
import Derived.ChangeOld
import Derived.Below
namespace Go.Proofs.YtlpcoaohgcgkiaaGreat.SampleMakes
open Go.Proofs.YtlpcoaohgcgkiaaGreat.W
open Go.ChangeShapes Go.WideShapes Go.ChangeAt Go.RowKit
open Go.ChangeMaps (open_string shut_string)
set_option linter.unusedVariables false
theorem own : ownKnob Tryz.prog.godebug = none := by kernel_rfl
theorem laidOut : laidOutB Tryz.prog = true := by kernel_rfl
open Go.Sort
set_option linter.unusedSimpArgs false
theorem smp_eql (a b c d e : Int) (w : World) : (binOp .eql 29 (.agg #[.int .i64 a, .int .i64 b, .int .i64 c, .int .i64 d, .int .i64 e]) (.agg #[.int .i64 a, .int .i64 b, .int .i64 c, .int .i64 d, .int .i64 e])).run Tryz.prog w = .ok (.bool true) w := by
  simp [go_sem]
set_option maxRecDepth 100000 in
set_option maxHeartbeats 12800000 in
theorem walk (p : Pm) (own : Int) (h : Hd) (back at_ total : Int) (w : World) (tp : p.Typed) (wo : (Lit.int .i64 own).wf = true) (th : h.Typed) (wb : (Lit.int .u64 back).wf = true) (wa : (Lit.int .i64 at_).wf = true) (wt : (Lit.int .i64 total).wf = true) :
    Calls Tryz.prog 3 #[p.val, .int .i64 own, h.val, .int .u64 back, .int .i64 at_, .int .i64 total] w fun e w' => e = .returned (.bool true) ∧ Below w.heap.size w w' := by
  have o0 : -9223372036854775808 ≤ own ∧ own ≤ 9223372036854775807 := by have := bounds_i64 wo; omega
  have b0 : 0 ≤ back ∧ back < 18446744073709551616 := by have := bounds_u64 wb; omega
  have a0 : -9223372036854775808 ≤ at_ ∧ at_ ≤ 9223372036854775807 := by have := bounds_i64 wa; omega
  have t0 : -9223372036854775808 ≤ total ∧ total ≤ 9223372036854775807 := by have := bounds_i64 wt; omega
  have c1 := smake_any p tp own o0 h th back b0 at_ total a0 t0
  have c2 := rmake_any p tp own o0 h th back b0 at_ total a0 t0
  have c4 := shown13_any
  generalize makeS p own h back at_ total = S at *
  generalize makeE h back at_ = E at *
  have qe := smp_eql S.off S.del S.disp S.at_ S.total
  unfold Pm.val Smp.val Hd.val at *
  clear wo wb wa wt o0 b0 a0 t0 th tp
  have hA1 := (Below.refl w.heap.size w).alloc (Nat.le_refl _) (.cells #[.int .i64 p.step, .int .i64 p.watch, .int .i64 p.panic, .int .i64 p.maxrate, .int .i64 p.phi, .int .i64 p.maxdist, .int .i64 p.gate, .int .i64 p.minpoll, .int .i64 p.maxpoll, .int .i64 p.burst, .int .i64 p.minsane, .int .i64 p.minleft] 23)
  have hA2 := hA1.alloc hA1.size (.cells #[.int .i64 h.leap, .int .i64 h.ver, .int .i64 h.mode, .int .i64 h.str, .int .i64 h.poll, .int .i64 h.prec, .int .u32 h.rdel, .int .u32 h.rdis, .int .u32 h.ref, .int .u64 h.reft, .int .u64 h.org, .int .u64 h.rcv, .int .u64 h.tx] 27)
  have hp1 := laid (.cells #[.int .i64 h.leap, .int .i64 h.ver, .int .i64 h.mode, .int .i64 h.str, .int .i64 h.poll, .int .i64 h.prec, .int .u32 h.rdel, .int .u32 h.rdis, .int .u32 h.ref, .int .u64 h.reft, .int .u64 h.org, .int .u64 h.rcv, .int .u64 h.tx] 27) (heap_alloc_new w (.cells #[.int .i64 p.step, .int .i64 p.watch, .int .i64 p.panic, .int .i64 p.maxrate, .int .i64 p.phi, .int .i64 p.maxdist, .int .i64 p.gate, .int .i64 p.minpoll, .int .i64 p.maxpoll, .int .i64 p.burst, .int .i64 p.minsane, .int .i64 p.minleft] 23))
  have hh1 := heap_alloc_new (w.alloc (.cells #[.int .i64 p.step, .int .i64 p.watch, .int .i64 p.panic, .int .i64 p.maxrate, .int .i64 p.phi, .int .i64 p.maxdist, .int .i64 p.gate, .int .i64 p.minpoll, .int .i64 p.maxpoll, .int .i64 p.burst, .int .i64 p.minsane, .int .i64 p.minleft] 23)) (.cells #[.int .i64 h.leap, .int .i64 h.ver, .int .i64 h.mode, .int .i64 h.str, .int .i64 h.poll, .int .i64 h.prec, .int .u32 h.rdel, .int .u32 h.rdis, .int .u32 h.ref, .int .u64 h.reft, .int .u64 h.org, .int .u64 h.rcv, .int .u64 h.tx] 27)
  rw [World.size_alloc] at hh1
  go_enter Tryz.func3, Tryz.ntmps3
  go_upto_region 1 with fail
  generalize (w.alloc (.cells #[.int .i64 p.step, .int .i64 p.watch, .int .i64 p.panic, .int .i64 p.maxrate, .int .i64 p.phi, .int .i64 p.maxdist, .int .i64 p.gate, .int .i64 p.minpoll, .int .i64 p.maxpoll, .int .i64 p.burst, .int .i64 p.minsane, .int .i64 p.minleft] 23)).alloc (.cells #[.int .i64 h.leap, .int .i64 h.ver, .int .i64 h.mode, .int .i64 h.str, .int .i64 h.poll, .int .i64 h.prec, .int .u32 h.rdel, .int .u32 h.rdis, .int .u32 h.ref, .int .u64 h.reft, .int .u64 h.org, .int .u64 h.rcv, .int .u64 h.tx] 27) = u0 at *
  obtain ⟨q0, q1, q2, q3, q4, q5, q6, q7, q8, q9, q10, q11⟩ := twelve_at hp1
  obtain ⟨h0, h1, h2, h3, h4, h5, h6, h7, h8, h9, h10, h11, h12⟩ := thirteen_in hh1
  go_wp2_with fail
  (with_reducible refine (c1 _).mono ?_)
  rintro e u1 ⟨rfl, hB1⟩
  have hq1 := hA2.trans (hB1.mono hA2.size)
  have hq2 := hq1.alloc hq1.size (.cells #[.int .i64 S.off, .int .i64 S.del, .int .i64 S.disp, .int .i64 S.at_, .int .i64 S.total] 29)
  have hp2 := laid (.cells #[.int .i64 S.off, .int .i64 S.del, .int .i64 S.disp, .int .i64 S.at_, .int .i64 S.total] 29) (kept hp1 hB1)
  have hh2 := laid (.cells #[.int .i64 S.off, .int .i64 S.del, .int .i64 S.disp, .int .i64 S.at_, .int .i64 S.total] 29) (kept hh1 hB1)
  have hs2 := heap_alloc_new u1 (.cells #[.int .i64 S.off, .int .i64 S.del, .int .i64 S.disp, .int .i64 S.at_, .int .i64 S.total] 29)
  clear q0 q1 q2 q3 q4 q5 q6 q7 q8 q9 q10 q11 h0 h1 h2 h3 h4 h5 h6 h7 h8 h9 h10 h11 h12 hp1 hh1 hA1 hA2 hB1 hq1 c1
  go_upto_region 2 with fail
  generalize u1.alloc (.cells #[.int .i64 S.off, .int .i64 S.del, .int .i64 S.disp, .int .i64 S.at_, .int .i64 S.total] 29) = u2 at *
  generalize u1.heap.size = bs1 at *
  obtain ⟨q0, q1, q2, q3, q4, q5, q6, q7, q8, q9, q10, q11⟩ := twelve_at hp2
  obtain ⟨h0, h1, h2, h3, h4, h5, h6, h7, h8, h9, h10, h11, h12⟩ := thirteen_in hh2
  go_wp2_with fail
  (with_reducible refine (c2 _).mono ?_)
  rintro e u3 ⟨rfl, hB3⟩
  have hq3 := hq2.trans (hB3.mono hq2.size)
  have hq4 := hq3.alloc hq3.size (.cells #[.int .i64 S.off, .int .i64 S.del, .int .i64 S.disp, .int .i64 S.at_, .int .i64 S.total] 29)
  have hs4 := laid (.cells #[.int .i64 S.off, .int .i64 S.del, .int .i64 S.disp, .int .i64 S.at_, .int .i64 S.total] 29) (kept hs2 hB3)
  have ht4 := heap_alloc_new u3 (.cells #[.int .i64 S.off, .int .i64 S.del, .int .i64 S.disp, .int .i64 S.at_, .int .i64 S.total] 29)
  clear q0 q1 q2 q3 q4 q5 q6 q7 q8 q9 q10 q11 h0 h1 h2 h3 h4 h5 h6 h7 h8 h9 h10 h11 h12 hp2 hh2 hs2 hq2 hB3 hq3 c2
  go_upto_region 3 with fail
  generalize u3.alloc (.cells #[.int .i64 S.off, .int .i64 S.del, .int .i64 S.disp, .int .i64 S.at_, .int .i64 S.total] 29) = u4 at *
  generalize u3.heap.size = bs2 at *
  obtain ⟨s0, s1, s2, s3, s4⟩ := five_in hs4
  obtain ⟨t0, t1, t2, t3, t4⟩ := five_in ht4
  go_wp2_with fail
  (with_reducible refine (c4 _).mono ?_)
  rintro e u5 ⟨rfl, hB5⟩
  have hq5 := hq4.trans (hB5.mono hq4.size)
  go_wp2_with fail
  go_ret
  exact ⟨rfl, hq5⟩
set_option maxRecDepth 100000 in
theorem lifted (os : Os) (started : os.Started) (H : Type) (enc : TypeId × Value → H) :
    ReturnsInHanded {} Tryz.checked os 3 .any (Rows.sampleMakesSpec.pre6 enc Tryz.prog Tryz.f3 Rows.sampleMakesRow.domain false) (Rows.sampleMakesSpec.post enc Tryz.prog Tryz.f3 false true false false) := by
  refine returnsInHanded_of_change (C := Tryz.checked) own started (by kernel_rfl) Tryz.func3
    (ChangeSpec.witness6 (enc := enc) (C := Tryz.checked) false ⟨#[], #[.agg #[.int .i64 0, .int .i64 0, .int .i64 0, .int .i64 0, .int .i64 0, .int .i64 0, .int .i64 0, .int .i64 0, .int .i64 0, .int .i64 0, .int .i64 0, .int .i64 0], .int .i64 0, .agg #[.int .i64 0, .int .i64 0, .int .i64 0, .int .i64 0, .int .i64 0, .int .i64 0, .int .u32 0, .int .u32 0, .int .u32 0, .int .u64 0, .int .u64 0, .int .u64 0, .int .u64 0], .int .u64 0, .int .i64 0, .int .i64 0], []⟩ 8 (by kernel_rfl) (by kernel_rfl) (by kernel_rfl) (by kernel_rfl)) ?_
  intro W base args ds gs before hval0 hW hcnd _
  have hval : ∀ (j : Nat) t v, Tryz.f3.params[j]? = some t → args[j]? = some v → Value.okWide Tryz.prog W .any base t v := hval0
  have hW' := hW
  obtain ⟨p, q, hA0, hV, rfl, hfz, hnd⟩ := hW
  have hA : DataW.TrodAll enc Tryz.prog W 0 (fun _ => true) true Tryz.f3.params.toList args.toList ds p := hA0
  rw [Tryz.params3] at hA hval
  obtain ⟨v0, vs0, d0, ds0, p0, q0, hargs, rfl, rfl, h0, r0⟩ := trodAll_cons hA
  obtain ⟨v1, vs1, d1, ds1, p1, q1, rfl, rfl, rfl, h1, r1⟩ := trodAll_cons r0
  obtain ⟨v2, vs2, d2, ds2, p2, q2, rfl, rfl, rfl, h2, r2⟩ := trodAll_cons r1
  obtain ⟨v3, vs3, d3, ds3, p3, q3, rfl, rfl, rfl, h3, r3⟩ := trodAll_cons r2
  obtain ⟨v4, vs4, d4, ds4, p4, q4, rfl, rfl, rfl, h4, r4⟩ := trodAll_cons r3
  obtain ⟨v5, vs5, d5, ds5, p5, q5, rfl, rfl, rfl, h5, r5⟩ := trodAll_cons r4
  obtain ⟨rfl, rfl, rfl⟩ := trodAll_nil r5
  obtain rfl : args = #[v0, v1, v2, v3, v4, v5] := by cases args; simp_all
  obtain ⟨rfl, rfl⟩ := trodVars_none hV
  have k0 := h0
  have lt0 : ∀ x ∈ p0, x.block < W.heap.size := by obtain ⟨m, hm⟩ := k0; exact DataW.trod_lt m _ _ _ hm
  obtain ⟨a0, rfl, w0⟩ := open_pm (hval 0 23 v0 rfl rfl) h0
  obtain ⟨a1, rfl, rfl, rfl, w1⟩ := open_int Tryz.underlying3 (hval 1 3 v1 rfl rfl) h1
  have k2 := h2
  have lt2 : ∀ x ∈ p2, x.block < W.heap.size := by obtain ⟨m, hm⟩ := k2; exact DataW.trod_lt m _ _ _ hm
  obtain ⟨a2, rfl, w2⟩ := open_hdr (hval 2 27 v2 rfl rfl) h2
  obtain ⟨a3, rfl, rfl, rfl, w3⟩ := open_int Tryz.underlying25 (hval 3 25 v3 rfl rfl) h3
  obtain ⟨a4, rfl, rfl, rfl, w4⟩ := open_int Tryz.underlying2 (hval 4 2 v4 rfl rfl) h4
  obtain ⟨a5, rfl, rfl, rfl, w5⟩ := open_int Tryz.underlying2 (hval 5 2 v5 rfl rfl) h5
  clear hA0 hval0
  refine (walk a0 a1 a2 a3 a4 a5 W w0 w1 w2 w3 w4 w5).mono fun e W' ⟨he, bel⟩ => ?_
  subst he
  exact ⟨_, rfl, _, _, _, [], _, [], hW', trodAll_mk1 (shut_bool Tryz.underlying4 _), (trodAll_cons_mk (Below.trod laidOut (by kernel_rfl) (of_decide_eq_true (by kernel_rfl)) k0 bel lt0) (trodAll_cons_mk (shut_int Tryz.underlying3 w1) (trodAll_cons_mk (Below.trod laidOut (by kernel_rfl) (of_decide_eq_true (by kernel_rfl)) k2 bel lt2) (trodAll_cons_mk (shut_int Tryz.underlying25 w3) (trodAll_cons_mk (shut_int Tryz.underlying2 w4) (trodAll_cons_mk (shut_int Tryz.underlying2 w5) trodAll_mk0)))))), rfl, bel.frame _, fun h => by cases h⟩

theorem over : Rows.sampleMakesRow.holds Tryz.pinned (OpenSpec.ofChange Rows.sampleMakesSpec) :=
  OpenClaim.holds_of_wide 3 Tryz.f3 rfl rfl rfl rfl rfl rfl rfl ⟨rfl, rfl, rfl, rfl, rfl⟩ rfl rfl rfl rfl rfl (by kernel_rfl) Tryz.func3 (by kernel_rfl)
    (of_decide_eq_true (by kernel_rfl)) (by unfold Func.isWrapper; first | (rw [if_pos (by decide +kernel)]; kernel_rfl) | (rw [if_neg (by decide +kernel)]; exact ⟨rfl, rfl⟩))
    (fun os started H enc _ => lifted os started H enc)

theorem proved : Rows.SampleMakesSaid := over
end Go.Proofs.YtlpcoaohgcgkiaaGreat.SampleMakes
