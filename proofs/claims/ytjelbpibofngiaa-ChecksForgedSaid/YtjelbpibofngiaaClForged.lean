/- ChecksForged: for every settings, asking and packet: what nobody asked for changes nothing. No condition. -/
import Derived.Test.YtjelbpibofngiaaCkY
import Derived.WalkKit
import Derived.WalkSpells
import Derived.WalkLawsBesides
import Derived.Lib.Hide
import Derived.Handy
import Derived.ProofKit
import Derived.OpenShut
import Derived.ShutString
import Derived.ChangeOld
import Derived.Below
namespace Go.Proofs.Ytjelbpibofngiaa.ChecksForged
open Go.Proofs.Ytjelbpibofngiaa.W
open Go.ChangeShapes Go.WideShapes Go.ChangeAt Go.RowKit
open Go.ChangeMaps (open_string shut_string)
set_option linter.unusedVariables false
theorem own : ownKnob Try.prog.godebug = none := by kernel_rfl
theorem laidOut : laidOutB Try.prog = true := by kernel_rfl
open Go.Sort
set_option linter.unusedSimpArgs false
set_option maxRecDepth 100000 in
set_option maxHeartbeats 12800000 in
theorem walk (p : Pm) (a : Aq) (h : Hd) (w : World) (tp : p.Typed) (ta : a.Typed) (th : h.Typed) :
    Calls Try.prog 3 #[p.val, a.val, h.val] w fun e w' => e = .returned (.bool true) ∧ Below w.heap.size w w' := by
  have c1 := jtake_any p tp a ta h th
  have c2 := shown12_any
  have hcase : (a.pend ≠ 0 ∧ h.org = a.pend ∧ ((judgeI p a h ≠ 0) ∨ (judgeI p a h = 0 ∧ (takeA p a h).pend = 0 ∧ (takeA p a h).last = h.tx))) ∨ (¬ (a.pend ≠ 0 ∧ h.org = a.pend) ∧ (judgeI p a h = 51 ∨ judgeI p a h = 120 ∨ judgeI p a h = 121 ∨ judgeI p a h = 122) ∧ takeA p a h = a) := by
    by_cases f : a.pend ≠ 0 ∧ h.org = a.pend
    · left
      refine ⟨f.1, f.2, ?_⟩
      rcases judge_cases p a h with ⟨g, _⟩ | ⟨g, e, _⟩
      · left
        omega
      · by_cases e0 : judgeI p a h = 0
        · right
          rw [e]
          exact ⟨e0, rfl, rfl⟩
        · exact .inl e0
    · right
      obtain ⟨g1, g2⟩ := judge_forged (p := p) f
      exact ⟨f, g1, g2⟩
  generalize judgeI p a h = j at *
  generalize takeA p a h = b at *
  unfold Pm.val Aq.val Hd.val at *
  have hA1 := (Below.refl w.heap.size w).alloc (Nat.le_refl _) (.cells #[.int .i64 p.step, .int .i64 p.watch, .int .i64 p.panic, .int .i64 p.maxrate, .int .i64 p.phi, .int .i64 p.maxdist, .int .i64 p.gate, .int .i64 p.minpoll, .int .i64 p.maxpoll, .int .i64 p.burst, .int .i64 p.minsane, .int .i64 p.minleft] 23)
  have hA2 := hA1.alloc hA1.size (.cells #[.int .i64 a.ver, .int .u64 a.pend, .int .u64 a.last] 26)
  have hA3 := hA2.alloc hA2.size (.cells #[.int .i64 h.leap, .int .i64 h.ver, .int .i64 h.mode, .int .i64 h.str, .int .i64 h.poll, .int .i64 h.prec, .int .u32 h.rdel, .int .u32 h.rdis, .int .u32 h.ref, .int .u64 h.reft, .int .u64 h.org, .int .u64 h.rcv, .int .u64 h.tx] 29)
  have hp1 := laid (.cells #[.int .i64 h.leap, .int .i64 h.ver, .int .i64 h.mode, .int .i64 h.str, .int .i64 h.poll, .int .i64 h.prec, .int .u32 h.rdel, .int .u32 h.rdis, .int .u32 h.ref, .int .u64 h.reft, .int .u64 h.org, .int .u64 h.rcv, .int .u64 h.tx] 29) (laid (.cells #[.int .i64 a.ver, .int .u64 a.pend, .int .u64 a.last] 26) (heap_alloc_new w (.cells #[.int .i64 p.step, .int .i64 p.watch, .int .i64 p.panic, .int .i64 p.maxrate, .int .i64 p.phi, .int .i64 p.maxdist, .int .i64 p.gate, .int .i64 p.minpoll, .int .i64 p.maxpoll, .int .i64 p.burst, .int .i64 p.minsane, .int .i64 p.minleft] 23)))
  have ha1 := laid (.cells #[.int .i64 h.leap, .int .i64 h.ver, .int .i64 h.mode, .int .i64 h.str, .int .i64 h.poll, .int .i64 h.prec, .int .u32 h.rdel, .int .u32 h.rdis, .int .u32 h.ref, .int .u64 h.reft, .int .u64 h.org, .int .u64 h.rcv, .int .u64 h.tx] 29) (heap_alloc_new (w.alloc (.cells #[.int .i64 p.step, .int .i64 p.watch, .int .i64 p.panic, .int .i64 p.maxrate, .int .i64 p.phi, .int .i64 p.maxdist, .int .i64 p.gate, .int .i64 p.minpoll, .int .i64 p.maxpoll, .int .i64 p.burst, .int .i64 p.minsane, .int .i64 p.minleft] 23)) (.cells #[.int .i64 a.ver, .int .u64 a.pend, .int .u64 a.last] 26))
  have hh1 := heap_alloc_new ((w.alloc (.cells #[.int .i64 p.step, .int .i64 p.watch, .int .i64 p.panic, .int .i64 p.maxrate, .int .i64 p.phi, .int .i64 p.maxdist, .int .i64 p.gate, .int .i64 p.minpoll, .int .i64 p.maxpoll, .int .i64 p.burst, .int .i64 p.minsane, .int .i64 p.minleft] 23)).alloc (.cells #[.int .i64 a.ver, .int .u64 a.pend, .int .u64 a.last] 26)) (.cells #[.int .i64 h.leap, .int .i64 h.ver, .int .i64 h.mode, .int .i64 h.str, .int .i64 h.poll, .int .i64 h.prec, .int .u32 h.rdel, .int .u32 h.rdis, .int .u32 h.ref, .int .u64 h.reft, .int .u64 h.org, .int .u64 h.rcv, .int .u64 h.tx] 29)
  rw [World.size_alloc] at ha1
  rw [World.size_alloc, World.size_alloc] at hh1
  go_enter Try.func3, Try.ntmps3
  go_upto_region 1 with fail
  generalize ((w.alloc (.cells #[.int .i64 p.step, .int .i64 p.watch, .int .i64 p.panic, .int .i64 p.maxrate, .int .i64 p.phi, .int .i64 p.maxdist, .int .i64 p.gate, .int .i64 p.minpoll, .int .i64 p.maxpoll, .int .i64 p.burst, .int .i64 p.minsane, .int .i64 p.minleft] 23)).alloc (.cells #[.int .i64 a.ver, .int .u64 a.pend, .int .u64 a.last] 26)).alloc (.cells #[.int .i64 h.leap, .int .i64 h.ver, .int .i64 h.mode, .int .i64 h.str, .int .i64 h.poll, .int .i64 h.prec, .int .u32 h.rdel, .int .u32 h.rdis, .int .u32 h.ref, .int .u64 h.reft, .int .u64 h.org, .int .u64 h.rcv, .int .u64 h.tx] 29) = u0 at *
  obtain ⟨q0, q1, q2, q3, q4, q5, q6, q7, q8, q9, q10, q11⟩ := twelve_at hp1
  obtain ⟨a0, a1, a2⟩ := three_in ha1
  obtain ⟨h0, h1, h2, h3, h4, h5, h6, h7, h8, h9, h10, h11, h12⟩ := thirteen_in hh1
  clear hA1 hA2
  go_wp2_with fail
  (with_reducible refine (c1 _).mono ?_)
  rintro e u1 ⟨rfl, hB1⟩
  have hq1 := hA3.trans (hB1.mono hA3.size)
  have hq2 := hq1.alloc hq1.size (.cells #[.int .i64 b.ver, .int .u64 b.pend, .int .u64 b.last] 26)
  have ha2 := laid (.cells #[.int .i64 b.ver, .int .u64 b.pend, .int .u64 b.last] 26) (kept ha1 hB1)
  have hh2 := laid (.cells #[.int .i64 b.ver, .int .u64 b.pend, .int .u64 b.last] 26) (kept hh1 hB1)
  have hb2 := heap_alloc_new u1 (.cells #[.int .i64 b.ver, .int .u64 b.pend, .int .u64 b.last] 26)
  clear q0 q1 q2 q3 q4 q5 q6 q7 q8 q9 q10 q11 a0 a1 a2 h0 h1 h2 h3 h4 h5 h6 h7 h8 h9 h10 h11 h12 hp1 ha1 hh1 hA3 hB1 hq1 c1
  go_upto_region 2 with fail
  generalize u1.alloc (.cells #[.int .i64 b.ver, .int .u64 b.pend, .int .u64 b.last] 26) = u2 at *
  go_wp2_with fail
  (with_reducible refine (c2 _).mono ?_)
  rintro e u3 ⟨rfl, hB3⟩
  have hq3 := hq2.trans (hB3.mono hq2.size)
  have ha3 := kept ha2 hB3
  have hh3 := kept hh2 hB3
  have hb3 := kept hb2 hB3
  clear hq2 hB3 ha2 hh2 hb2
  obtain ⟨a0, a1, a2⟩ := three_in ha3
  obtain ⟨b0, b1, b2⟩ := three_in hb3
  obtain ⟨h0, h1, h2, h3, h4, h5, h6, h7, h8, h9, h10, h11, h12⟩ := thirteen_in hh3
  rcases hcase with ⟨f1, f2, g⟩ | ⟨f, g, e⟩
  · rcases g with g | ⟨g1, g2, g3⟩
    · go_wp2_with fail
      all_goals go_ret
      all_goals exact ⟨rfl, hq3⟩
    · go_wp2_with fail
      all_goals go_ret
      all_goals exact ⟨rfl, hq3⟩
  · subst e
    by_cases f1 : b.pend = 0
    · rcases g with g | g | g | g <;> subst g
      · go_wp2_with fail
        all_goals go_ret
        all_goals exact ⟨rfl, hq3⟩
      · go_wp2_with fail
        all_goals go_ret
        all_goals exact ⟨rfl, hq3⟩
      · go_wp2_with fail
        all_goals go_ret
        all_goals exact ⟨rfl, hq3⟩
      · go_wp2_with fail
        all_goals go_ret
        all_goals exact ⟨rfl, hq3⟩
    · have f2 : h.org ≠ b.pend := fun e => f ⟨f1, e⟩
      rcases g with g | g | g | g <;> subst g
      · go_wp2_with fail
        all_goals go_ret
        all_goals exact ⟨rfl, hq3⟩
      · go_wp2_with fail
        all_goals go_ret
        all_goals exact ⟨rfl, hq3⟩
      · go_wp2_with fail
        all_goals go_ret
        all_goals exact ⟨rfl, hq3⟩
      · go_wp2_with fail
        all_goals go_ret
        all_goals exact ⟨rfl, hq3⟩
set_option maxRecDepth 100000 in
theorem lifted (os : Os) (started : os.Started) (H : Type) (enc : TypeId × Value → H) :
    ReturnsInHanded {} Try.checked os 3 .any (Rows.checksForgedSpec.pre6 enc Try.prog Try.f3 Rows.checksForgedRow.domain false) (Rows.checksForgedSpec.post enc Try.prog Try.f3 false true false false) := by
  refine returnsInHanded_of_change (C := Try.checked) own started (by kernel_rfl) Try.func3
    (ChangeSpec.witness6 (enc := enc) (C := Try.checked) false ⟨#[], #[.agg #[.int .i64 0, .int .i64 0, .int .i64 0, .int .i64 0, .int .i64 0, .int .i64 0, .int .i64 0, .int .i64 0, .int .i64 0, .int .i64 0, .int .i64 0, .int .i64 0], .agg #[.int .i64 0, .int .u64 0, .int .u64 0], .agg #[.int .i64 0, .int .i64 0, .int .i64 0, .int .i64 0, .int .i64 0, .int .i64 0, .int .u32 0, .int .u32 0, .int .u32 0, .int .u64 0, .int .u64 0, .int .u64 0, .int .u64 0]], []⟩ 8 (by kernel_rfl) (by kernel_rfl) (by kernel_rfl) (by kernel_rfl)) ?_
  intro W base args ds gs before hval0 hW hcnd _
  have hval : ∀ (j : Nat) t v, Try.f3.params[j]? = some t → args[j]? = some v → Value.okWide Try.prog W .any base t v := hval0
  have hW' := hW
  obtain ⟨p, q, hA0, hV, rfl, hfz, hnd⟩ := hW
  have hA : DataW.TrodAll enc Try.prog W 0 (fun _ => true) true Try.f3.params.toList args.toList ds p := hA0
  rw [Try.params3] at hA hval
  obtain ⟨v0, vs0, d0, ds0, p0, q0, hargs, rfl, rfl, h0, r0⟩ := trodAll_cons hA
  obtain ⟨v1, vs1, d1, ds1, p1, q1, rfl, rfl, rfl, h1, r1⟩ := trodAll_cons r0
  obtain ⟨v2, vs2, d2, ds2, p2, q2, rfl, rfl, rfl, h2, r2⟩ := trodAll_cons r1
  obtain ⟨rfl, rfl, rfl⟩ := trodAll_nil r2
  obtain rfl : args = #[v0, v1, v2] := by cases args; simp_all
  obtain ⟨rfl, rfl⟩ := trodVars_none hV
  have k0 := h0
  have lt0 : ∀ x ∈ p0, x.block < W.heap.size := by obtain ⟨m, hm⟩ := k0; exact DataW.trod_lt m _ _ _ hm
  obtain ⟨a0, rfl, w0⟩ := open_pm (hval 0 23 v0 rfl rfl) h0
  have k1 := h1
  have lt1 : ∀ x ∈ p1, x.block < W.heap.size := by obtain ⟨m, hm⟩ := k1; exact DataW.trod_lt m _ _ _ hm
  obtain ⟨a1, rfl, w1⟩ := open_ask (hval 1 26 v1 rfl rfl) h1
  have k2 := h2
  have lt2 : ∀ x ∈ p2, x.block < W.heap.size := by obtain ⟨m, hm⟩ := k2; exact DataW.trod_lt m _ _ _ hm
  obtain ⟨a2, rfl, w2⟩ := open_hdr (hval 2 29 v2 rfl rfl) h2
  clear hA0 hval0
  refine (walk a0 a1 a2 W w0 w1 w2).mono fun e W' ⟨he, bel⟩ => ?_
  subst he
  exact ⟨_, rfl, _, _, _, [], _, [], hW', trodAll_mk1 (shut_bool Try.underlying4 _), (trodAll_cons_mk (Below.trod laidOut (by kernel_rfl) (of_decide_eq_true (by kernel_rfl)) k0 bel lt0) (trodAll_cons_mk (Below.trod laidOut (by kernel_rfl) (of_decide_eq_true (by kernel_rfl)) k1 bel lt1) (trodAll_cons_mk (Below.trod laidOut (by kernel_rfl) (of_decide_eq_true (by kernel_rfl)) k2 bel lt2) trodAll_mk0))), rfl, bel.frame _, fun h => by cases h⟩

theorem over : Rows.checksForgedRow.holds Try.pinned (OpenSpec.ofChange Rows.checksForgedSpec) :=
  OpenClaim.holds_of_wide 3 Try.f3 rfl rfl rfl rfl rfl rfl rfl ⟨rfl, rfl, rfl, rfl, rfl⟩ rfl rfl rfl rfl rfl (by kernel_rfl) Try.func3 (by kernel_rfl)
    (of_decide_eq_true (by kernel_rfl)) (by unfold Func.isWrapper; first | (rw [if_pos (by decide +kernel)]; kernel_rfl) | (rw [if_neg (by decide +kernel)]; exact ⟨rfl, rfl⟩))
    (fun os started H enc _ => lifted os started H enc)

theorem proved : Rows.ChecksForgedSaid := over
end Go.Proofs.Ytjelbpibofngiaa.ChecksForged
