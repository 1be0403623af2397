/- FixRises: for every three int64s and every int, sums, differences, shifts, roots and logarithms, and products and quotients by what is above 0, are no less where what they are of is no less. No condition. -/
import Derived.Test.YtlnoclffgmcgoaaFixZ
import Derived.WalkKit
import Derived.WalkSpells
import Derived.WalkLawsBesides
import Derived.Lib.Hide
import Derived.Handy
import Derived.ProofKit
import Derived.OpenShut
import Derived.ShutString
import Derived.ChangeOld
import Derived.Below
namespace Go.Proofs.Ytlnoclffgmcgoaa.FixRises
open Go.Proofs.Ytlnoclffgmcgoaa.W
open Go.ChangeShapes Go.WideShapes Go.ChangeAt Go.RowKit
open Go.ChangeMaps (open_string shut_string)
set_option linter.unusedVariables false
theorem own : ownKnob Try.prog.godebug = none := by kernel_rfl
theorem laidOut : laidOutB Try.prog = true := by kernel_rfl
set_option linter.unusedSimpArgs false
set_option maxHeartbeats 3200000 in
theorem walk (a0 a1 a2 a3 : Int) (w : World) (w0 : (Lit.int .i64 a0).wf = true) (w1 : (Lit.int .i64 a1).wf = true) (w2 : (Lit.int .i64 a2).wf = true) (w3 : (Lit.int .i64 a3).wf = true) :
    Calls Try.prog 5 #[.int .i64 a0, .int .i64 a1, .int .i64 a2, .int .i64 a3] w fun e w' => e = .returned (.bool true) ∧ Below w.heap.size w w' := by
  obtain ⟨p0, p1⟩ := i64_bounds w0
  obtain ⟨q0, q1⟩ := i64_bounds w1
  obtain ⟨r0, r1⟩ := i64_bounds w2
  obtain ⟨s0, s1⟩ := i64_bounds w3
  clear w0 w1 w2 w3
  obtain ⟨lo, hi, hle, l0, l1, h0, h1, hc⟩ : ∃ lo hi : Int, lo ≤ hi ∧ -9223372036854775808 ≤ lo ∧ lo ≤ 9223372036854775807 ∧ -9223372036854775808 ≤ hi ∧ hi ≤ 9223372036854775807 ∧ ((a0 = lo ∧ a1 = hi ∧ a0 < a1) ∨ (a0 = lo ∧ a1 = lo ∧ hi = lo) ∨ (a0 = hi ∧ a1 = lo ∧ a1 < a0)) := by
    rcases Int.lt_trichotomy a0 a1 with h | h | h
    · exact ⟨a0, a1, by omega, by omega, by omega, by omega, by omega, .inl ⟨rfl, rfl, h⟩⟩
    · exact ⟨a0, a0, by omega, by omega, by omega, by omega, by omega, .inr (.inl ⟨rfl, h.symm, rfl⟩)⟩
    · exact ⟨a1, a0, by omega, by omega, by omega, by omega, by omega, .inr (.inr ⟨rfl, rfl, h⟩)⟩
  have c1 := add_any lo a2 l0 l1 r0 r1
  have c2 := add_any hi a2 h0 h1 r0 r1
  have c3 := sub_any lo a2 l0 l1 r0 r1
  have c4 := sub_any hi a2 h0 h1 r0 r1
  have c5 := shift_any lo a3 l0 l1 s0 s1
  have c6 := shift_any hi a3 h0 h1 s0 s1
  have c7 := fsqrt_any lo l0 l1
  have c8 := fsqrt_any hi h0 h1
  have c9 := flog_any lo l0 l1
  have c10 := flog_any hi h0 h1
  have c11 := fmul_any lo a2 l0 l1 r0 r1
  have c12 := fmul_any hi a2 h0 h1 r0 r1
  have c13 := fdiv_any lo a2 l0 l1 r0 r1
  have c14 := fdiv_any hi a2 h0 h1 r0 r1
  have m1 := addI_mono a2 hle
  have m2 := subI_mono a2 hle
  have m3 := shiftI_mono a3 hle
  have m4 := rootI_mono hle
  have m5 : logI lo - 32 ≤ logI hi - 32 := by have := logI_mono hle; omega
  have m6 : 0 < a2 → mulI lo a2 ≤ mulI hi a2 := fun h => mulI_mono a2 (by omega) hle
  have m7 : 0 < a2 → divI lo a2 ≤ divI hi a2 := fun h => divI_mono a2 h hle
  generalize addI lo a2 = x1 at *
  generalize addI hi a2 = y1 at *
  generalize subI lo a2 = x2 at *
  generalize subI hi a2 = y2 at *
  generalize shiftI lo a3 = x3 at *
  generalize shiftI hi a3 = y3 at *
  generalize rootI lo = x4 at *
  generalize rootI hi = y4 at *
  generalize logI lo - 32 = x5 at *
  generalize logI hi - 32 = y5 at *
  generalize mulI lo a2 = x6 at *
  generalize mulI hi a2 = y6 at *
  generalize divI lo a2 = x7 at *
  generalize divI hi a2 = y7 at *
  by_cases hp : 0 < a2
  · have m8 := m6 hp
    have m9 := m7 hp
    clear m6 m7
    rcases hc with ⟨rfl, rfl, hlt⟩ | ⟨rfl, rfl, rfl⟩ | ⟨rfl, rfl, hlt⟩
    all_goals
      go_enter Try.func5, Try.ntmps5
      go_wp2_with fail
      (with_reducible refine (c1 _).mono ?_)
      rintro e w' ⟨rfl, rfl⟩
      go_wp2_with fail
      (with_reducible refine (c2 _).mono ?_)
      rintro e w' ⟨rfl, rfl⟩
      go_wp2_with fail
      (with_reducible refine (c3 _).mono ?_)
      rintro e w' ⟨rfl, rfl⟩
      go_wp2_with fail
      (with_reducible refine (c4 _).mono ?_)
      rintro e w' ⟨rfl, rfl⟩
      go_wp2_with fail
      (with_reducible refine (c5 _).mono ?_)
      rintro e w' ⟨rfl, rfl⟩
      go_wp2_with fail
      (with_reducible refine (c6 _).mono ?_)
      rintro e w' ⟨rfl, rfl⟩
      go_wp2_with fail
      (with_reducible refine (c7 _).mono ?_)
      rintro e w7 ⟨rfl, hb⟩
      have hB := hb
      clear hb
      go_wp2_with fail
      (with_reducible refine (c8 _).mono ?_)
      rintro e w8 ⟨rfl, hb⟩
      replace hB := hB.trans (hb.mono hB.size)
      clear hb
      go_wp2_with fail
      (with_reducible refine (c9 _).mono ?_)
      rintro e w' ⟨rfl, rfl⟩
      go_wp2_with fail
      (with_reducible refine (c10 _).mono ?_)
      rintro e w' ⟨rfl, rfl⟩
      go_wp2_with fail
      (with_reducible refine (fshown_any _).mono ?_)
      rintro e w11 ⟨rfl, hb⟩
      replace hB := hB.trans (hb.mono hB.size)
      clear hb
      go_wp2_with fail
      (with_reducible refine (c11 _).mono ?_)
      rintro e w12 ⟨rfl, hb⟩
      replace hB := hB.trans (hb.mono hB.size)
      clear hb
      go_wp2_with fail
      (with_reducible refine (c12 _).mono ?_)
      rintro e w13 ⟨rfl, hb⟩
      replace hB := hB.trans (hb.mono hB.size)
      clear hb
      go_wp2_with fail
      (with_reducible refine (c13 _).mono ?_)
      rintro e w14 ⟨rfl, hb⟩
      replace hB := hB.trans (hb.mono hB.size)
      clear hb
      go_wp2_with fail
      (with_reducible refine (c14 _).mono ?_)
      rintro e w15 ⟨rfl, hb⟩
      replace hB := hB.trans (hb.mono hB.size)
      clear hb
      go_wp2_with fail
      go_ret
      exact ⟨rfl, hB⟩
  · clear m6 m7
    rcases hc with ⟨rfl, rfl, hlt⟩ | ⟨rfl, rfl, rfl⟩ | ⟨rfl, rfl, hlt⟩
    all_goals
      go_enter Try.func5, Try.ntmps5
      go_wp2_with fail
      (with_reducible refine (c1 _).mono ?_)
      rintro e w' ⟨rfl, rfl⟩
      go_wp2_with fail
      (with_reducible refine (c2 _).mono ?_)
      rintro e w' ⟨rfl, rfl⟩
      go_wp2_with fail
      (with_reducible refine (c3 _).mono ?_)
      rintro e w' ⟨rfl, rfl⟩
      go_wp2_with fail
      (with_reducible refine (c4 _).mono ?_)
      rintro e w' ⟨rfl, rfl⟩
      go_wp2_with fail
      (with_reducible refine (c5 _).mono ?_)
      rintro e w' ⟨rfl, rfl⟩
      go_wp2_with fail
      (with_reducible refine (c6 _).mono ?_)
      rintro e w' ⟨rfl, rfl⟩
      go_wp2_with fail
      (with_reducible refine (c7 _).mono ?_)
      rintro e w7 ⟨rfl, hb⟩
      have hB := hb
      clear hb
      go_wp2_with fail
      (with_reducible refine (c8 _).mono ?_)
      rintro e w8 ⟨rfl, hb⟩
      replace hB := hB.trans (hb.mono hB.size)
      clear hb
      go_wp2_with fail
      (with_reducible refine (c9 _).mono ?_)
      rintro e w' ⟨rfl, rfl⟩
      go_wp2_with fail
      (with_reducible refine (c10 _).mono ?_)
      rintro e w' ⟨rfl, rfl⟩
      go_wp2_with fail
      (with_reducible refine (fshown_any _).mono ?_)
      rintro e w11 ⟨rfl, hb⟩
      replace hB := hB.trans (hb.mono hB.size)
      clear hb
      go_wp2_with fail
      go_ret
      exact ⟨rfl, hB⟩
set_option maxRecDepth 100000 in
theorem lifted (os : Os) (started : os.Started) (H : Type) (enc : TypeId × Value → H) :
    ReturnsInHanded {} Try.checked os 5 .any (Rows.fixRisesSpec.pre6 enc Try.prog Try.f5 Rows.fixRisesRow.domain false) (Rows.fixRisesSpec.post enc Try.prog Try.f5 false true false false) := by
  refine returnsInHanded_of_change (C := Try.checked) own started (by kernel_rfl) Try.func5
    (ChangeSpec.witness6 (enc := enc) (C := Try.checked) false ⟨#[], #[.int .i64 0, .int .i64 0, .int .i64 0, .int .i64 0], []⟩ 8 (by kernel_rfl) (by kernel_rfl) (by kernel_rfl) (by kernel_rfl)) ?_
  intro W base args ds gs before hval0 hW hcnd _
  have hval : ∀ (j : Nat) t v, Try.f5.params[j]? = some t → args[j]? = some v → Value.okWide Try.prog W .any base t v := hval0
  have hW' := hW
  obtain ⟨p, q, hA0, hV, rfl, hfz, hnd⟩ := hW
  have hA : DataW.TrodAll enc Try.prog W 0 (fun _ => true) true Try.f5.params.toList args.toList ds p := hA0
  rw [Try.params5] at hA hval
  obtain ⟨v0, vs0, d0, ds0, p0, q0, hargs, rfl, rfl, h0, r0⟩ := trodAll_cons hA
  obtain ⟨v1, vs1, d1, ds1, p1, q1, rfl, rfl, rfl, h1, r1⟩ := trodAll_cons r0
  obtain ⟨v2, vs2, d2, ds2, p2, q2, rfl, rfl, rfl, h2, r2⟩ := trodAll_cons r1
  obtain ⟨v3, vs3, d3, ds3, p3, q3, rfl, rfl, rfl, h3, r3⟩ := trodAll_cons r2
  obtain ⟨rfl, rfl, rfl⟩ := trodAll_nil r3
  obtain rfl : args = #[v0, v1, v2, v3] := by cases args; simp_all
  obtain ⟨rfl, rfl⟩ := trodVars_none hV
  obtain ⟨a0, rfl, rfl, rfl, w0⟩ := open_int Try.underlying2 (hval 0 2 v0 rfl rfl) h0
  obtain ⟨a1, rfl, rfl, rfl, w1⟩ := open_int Try.underlying2 (hval 1 2 v1 rfl rfl) h1
  obtain ⟨a2, rfl, rfl, rfl, w2⟩ := open_int Try.underlying2 (hval 2 2 v2 rfl rfl) h2
  obtain ⟨a3, rfl, rfl, rfl, w3⟩ := open_int Try.underlying3 (hval 3 3 v3 rfl rfl) h3
  clear hA0 hval0
  refine (walk a0 a1 a2 a3 W w0 w1 w2 w3).mono fun e W' ⟨he, bel⟩ => ?_
  subst he
  exact ⟨_, rfl, _, _, _, [], _, [], hW', trodAll_mk1 (shut_bool Try.underlying4 _), (trodAll_cons_mk (shut_int Try.underlying2 w0) (trodAll_cons_mk (shut_int Try.underlying2 w1) (trodAll_cons_mk (shut_int Try.underlying2 w2) (trodAll_cons_mk (shut_int Try.underlying3 w3) trodAll_mk0)))), rfl, bel.frame _, fun h => by cases h⟩

theorem over : Rows.fixRisesRow.holds Try.pinned (OpenSpec.ofChange Rows.fixRisesSpec) :=
  OpenClaim.holds_of_wide 5 Try.f5 rfl rfl rfl rfl rfl rfl rfl ⟨rfl, rfl, rfl, rfl, rfl⟩ rfl rfl rfl rfl rfl (by kernel_rfl) Try.func5 (by kernel_rfl)
    (of_decide_eq_true (by kernel_rfl)) (by unfold Func.isWrapper; first | (rw [if_pos (by decide +kernel)]; kernel_rfl) | (rw [if_neg (by decide +kernel)]; exact ⟨rfl, rfl⟩))
    (fun os started H enc _ => lifted os started H enc)

theorem proved : Rows.FixRisesSaid := over
end Go.Proofs.Ytlnoclffgmcgoaa.FixRises
