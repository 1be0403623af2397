/- FixLeast: for every two int64s and every int, no sum, difference, distance, product, quotient, shift, root, number of a range, mean or root of a mean is the least int64, and neither a distance from 0 nor a root is below 0. No condition. -/
import Derived.Test.YtlnoclffgmcgoaaFixZ
import Derived.WalkKit
import Derived.WalkSpells
import Derived.WalkLawsBesides
import Derived.Lib.Hide
import Derived.Handy
import Derived.ProofKit
import Derived.OpenShut
import Derived.ShutString
import Derived.ChangeOld
import Derived.Below
namespace Go.Proofs.Ytlnoclffgmcgoaa.FixLeast
open Go.Proofs.Ytlnoclffgmcgoaa.W
open Go.ChangeShapes Go.WideShapes Go.ChangeAt Go.RowKit
open Go.ChangeMaps (open_string shut_string)
set_option linter.unusedVariables false
theorem own : ownKnob Try.prog.godebug = none := by kernel_rfl
theorem laidOut : laidOutB Try.prog = true := by kernel_rfl
set_option linter.unusedSimpArgs false
theorem two_ints (w : World) (a b : Int) : Ints (w.alloc (.cells #[.int .i64 a, .int .i64 b] 2)) (some ⟨w.heap.size, 0, none⟩) [a, b] := by
  refine .inr ⟨w.heap.size, 0, rfl, by simp, fun k hk => ?_⟩
  have hb := heap_alloc_new' w (.cells #[.int .i64 a, .int .i64 b] 2) rfl
  obtain ⟨c0, c1⟩ := cell_of_two hb
  have : k = 0 ∨ k = 1 := by simp at hk; omega
  rcases this with rfl | rfl
  · exact c0
  · exact c1
theorem ten_cells (w : World) (x0 x1 x2 x3 x4 x5 x6 x7 x8 x9 : Int) (h0 : -9223372036854775807 ≤ x0) (h1 : -9223372036854775807 ≤ x1) (h2 : -9223372036854775807 ≤ x2) (h3 : -9223372036854775807 ≤ x3) (h4 : -9223372036854775807 ≤ x4)
    (h5 : -9223372036854775807 ≤ x5) (h6 : -9223372036854775807 ≤ x6) (h7 : -9223372036854775807 ≤ x7) (h8 : -9223372036854775807 ≤ x8) (h9 : -9223372036854775807 ≤ x9) (k : Nat) (hk : k < 10) :
    ∃ x, (w.alloc (.cells #[.int .i64 x0, .int .i64 x1, .int .i64 x2, .int .i64 x3, .int .i64 x4, .int .i64 x5, .int .i64 x6, .int .i64 x7, .int .i64 x8, .int .i64 x9] 2)).cell? ⟨w.heap.size, k, none⟩ = some (.int .i64 x) ∧ -9223372036854775807 ≤ x := by
  have hb := heap_alloc_new' w (.cells #[.int .i64 x0, .int .i64 x1, .int .i64 x2, .int .i64 x3, .int .i64 x4, .int .i64 x5, .int .i64 x6, .int .i64 x7, .int .i64 x8, .int .i64 x9] 2) rfl
  simp only [World.cell?, hb]
  match k, hk with
  | 0, _ => exact ⟨x0, rfl, h0⟩
  | 1, _ => exact ⟨x1, rfl, h1⟩
  | 2, _ => exact ⟨x2, rfl, h2⟩
  | 3, _ => exact ⟨x3, rfl, h3⟩
  | 4, _ => exact ⟨x4, rfl, h4⟩
  | 5, _ => exact ⟨x5, rfl, h5⟩
  | 6, _ => exact ⟨x6, rfl, h6⟩
  | 7, _ => exact ⟨x7, rfl, h7⟩
  | 8, _ => exact ⟨x8, rfl, h8⟩
  | 9, _ => exact ⟨x9, rfl, h9⟩
theorem two_in (a b : Int) (p0 : -9223372036854775808 ≤ a) (p1 : a ≤ 9223372036854775807) (q0 : -9223372036854775808 ≤ b) (q1 : b ≤ 9223372036854775807) : InR [a, b] := by
  intro x hx
  simp at hx
  omega
set_option maxHeartbeats 3200000 in
theorem walk (a0 a1 a2 : Int) (w : World) (w0 : (Lit.int .i64 a0).wf = true) (w1 : (Lit.int .i64 a1).wf = true) (w2 : (Lit.int .i64 a2).wf = true) :
    Calls Try.prog 6 #[.int .i64 a0, .int .i64 a1, .int .i64 a2] w fun e w' => e = .returned (.bool true) ∧ Below w.heap.size w w' := by
  obtain ⟨p0, p1⟩ := i64_bounds w0
  obtain ⟨q0, q1⟩ := i64_bounds w1
  obtain ⟨r0, r1⟩ := i64_bounds w2
  clear w0 w1 w2
  have c1 := add_any a0 a1 p0 p1 q0 q1
  have c2 := sub_any a0 a1 p0 p1 q0 q1
  have c3 := abs_any a0 p0 p1
  have c4 := fmul_any a0 a1 p0 p1 q0 q1
  have c5 := fdiv_any a0 a1 p0 p1 q0 q1
  have c6 := shift_any a0 a2 p0 p1 r0 r1
  have c7 := fsqrt_any a0 p0 p1
  have c8 := clamp_any a0 a1 a0 p0 p1 q0 q1 p0 p1
  have c9 := fun A cap w' h => fmean_any [a0, a0] A cap (two_in _ _ p0 p1 p0 p1) (by simp) w' h
  have c10 := fun A cap w' h => froot_any [a0, a1] A cap (two_in _ _ p0 p1 q0 q1) (by simp) w' h
  rw [show [a0, a0].length = 2 from rfl] at c9
  rw [show [a0, a1].length = 2 from rfl] at c10
  have h1 : -9223372036854775807 ≤ addI a0 a1 := (cutI_range _).1
  have h2 : -9223372036854775807 ≤ subI a0 a1 := (cutI_range _).1
  have h3 : 0 ≤ absI a0 := by
    have := sizeI_range a0 p0 p1
    have := cutI_mono this.1
    exact this
  have h4 := (mulI_range a0 a1).1
  have h5 := (divI_range a0 a1).1
  have h6 := (shiftI_range a0 a2).1
  have h7 := rootI_nonneg a0
  have h8 : -9223372036854775807 ≤ clampI a0 a1 a0 := (cutI_range _).1
  have h9 := (meanI_range [a0, a0]).1
  have h10 : 0 ≤ rmsI [a0, a1] := rootI_nonneg _
  generalize addI a0 a1 = x1 at *
  generalize subI a0 a1 = x2 at *
  generalize absI a0 = x3 at *
  generalize mulI a0 a1 = x4 at *
  generalize divI a0 a1 = x5 at *
  generalize shiftI a0 a2 = x6 at *
  generalize rootI a0 = x7 at *
  generalize clampI a0 a1 a0 = x8 at *
  generalize meanI [a0, a0] = x9 at *
  generalize rmsI [a0, a1] = x10 at *
  go_enter Try.func6, Try.ntmps6
  go_wp2_with fail
  (with_reducible refine (c1 _).mono ?_)
  rintro e w' ⟨rfl, rfl⟩
  go_wp2_with fail
  (with_reducible refine (c2 _).mono ?_)
  rintro e w' ⟨rfl, rfl⟩
  go_wp2_with fail
  (with_reducible refine (c3 _).mono ?_)
  rintro e w' ⟨rfl, rfl⟩
  go_wp2_with fail
  (with_reducible refine (c4 _).mono ?_)
  rintro e w4 ⟨rfl, hb⟩
  have hB := hb
  clear hb
  go_wp2_with fail
  (with_reducible refine (c5 _).mono ?_)
  rintro e w5 ⟨rfl, hb⟩
  replace hB := hB.trans (hb.mono hB.size)
  clear hb
  go_wp2_with fail
  (with_reducible refine (c6 _).mono ?_)
  rintro e w' ⟨rfl, rfl⟩
  go_wp2_with fail
  (with_reducible refine (c7 _).mono ?_)
  rintro e w7 ⟨rfl, hb⟩
  replace hB := hB.trans (hb.mono hB.size)
  clear hb
  go_wp2_with fail
  (with_reducible refine (c8 _).mono ?_)
  rintro e w' ⟨rfl, rfl⟩
  go_wp2_with fail
  (with_reducible refine (c9 _ _ _ (two_ints _ a0 a0)).mono ?_)
  rintro e w9 ⟨rfl, hb⟩
  replace hB := (hB.alloc hB.size _).trans (hb.mono (by have := hB.size; simp; omega))
  clear hb
  go_wp2_with fail
  (with_reducible refine (c10 _ _ _ (two_ints _ a0 a1)).mono ?_)
  rintro e w10 ⟨rfl, hb⟩
  replace hB := (hB.alloc hB.size _).trans (hb.mono (by have := hB.size; simp; omega))
  clear hb
  have hten := ten_cells w10 x1 x2 x3 x4 x5 x6 x7 x8 x9 x10 h1 h2 (by omega) h4 h5 h6 (by omega) h8 h9 (by omega)
  have HT := Lib.hid hten
  clear hten
  go_wp2_with fail
  have hB2 := hB.alloc hB.size (.cells #[.int .i64 x1, .int .i64 x2, .int .i64 x3, .int .i64 x4, .int .i64 x5, .int .i64 x6, .int .i64 x7, .int .i64 x8, .int .i64 x9, .int .i64 x10] 2)
  generalize w10.alloc (.cells #[.int .i64 x1, .int .i64 x2, .int .i64 x3, .int .i64 x4, .int .i64 x5, .int .i64 x6, .int .i64 x7, .int .i64 x8, .int .i64 x9, .int .i64 x10] 2) = W at *
  go_loop [8] (fun i => ∃ k : Nat, k ≤ 10 ∧ i = .int .i64 k) (fun i => 10 - (intOf i).toNat)
  case atStart => exact ⟨0, by omega, rfl⟩
  case round =>
    obtain ⟨k, hk, rfl⟩ := hrel
    by_cases hk2 : k < 10
    · obtain ⟨x, hx, hx2⟩ := HT.out k hk2
      go_wp2_with fail
      go_round
      case rel => exact ⟨k + 1, by omega, by go_num⟩
      case measure => simp [intOf]; omega
    · obtain rfl : k = 10 := by omega
      go_wp2_with fail
      (with_reducible refine (c3 _).mono ?_)
      rintro e w' ⟨rfl, rfl⟩
      go_wp2_with fail
      (with_reducible refine (c7 _).mono ?_)
      rintro e w11 ⟨rfl, hb⟩
      replace hB2 := hB2.trans (hb.mono hB2.size)
      clear hb
      go_wp2_with fail
      (with_reducible refine (fshown_any _).mono ?_)
      rintro e w12 ⟨rfl, hb⟩
      replace hB2 := hB2.trans (hb.mono hB2.size)
      clear hb
      go_wp2_with fail
      go_ret
      exact ⟨rfl, hB2⟩
set_option maxRecDepth 100000 in
theorem lifted (os : Os) (started : os.Started) (H : Type) (enc : TypeId × Value → H) :
    ReturnsInHanded {} Try.checked os 6 .any (Rows.fixLeastSpec.pre6 enc Try.prog Try.f6 Rows.fixLeastRow.domain false) (Rows.fixLeastSpec.post enc Try.prog Try.f6 false true false false) := by
  refine returnsInHanded_of_change (C := Try.checked) own started (by kernel_rfl) Try.func6
    (ChangeSpec.witness6 (enc := enc) (C := Try.checked) false ⟨#[], #[.int .i64 0, .int .i64 0, .int .i64 0], []⟩ 8 (by kernel_rfl) (by kernel_rfl) (by kernel_rfl) (by kernel_rfl)) ?_
  intro W base args ds gs before hval0 hW hcnd _
  have hval : ∀ (j : Nat) t v, Try.f6.params[j]? = some t → args[j]? = some v → Value.okWide Try.prog W .any base t v := hval0
  have hW' := hW
  obtain ⟨p, q, hA0, hV, rfl, hfz, hnd⟩ := hW
  have hA : DataW.TrodAll enc Try.prog W 0 (fun _ => true) true Try.f6.params.toList args.toList ds p := hA0
  rw [Try.params6] at hA hval
  obtain ⟨v0, vs0, d0, ds0, p0, q0, hargs, rfl, rfl, h0, r0⟩ := trodAll_cons hA
  obtain ⟨v1, vs1, d1, ds1, p1, q1, rfl, rfl, rfl, h1, r1⟩ := trodAll_cons r0
  obtain ⟨v2, vs2, d2, ds2, p2, q2, rfl, rfl, rfl, h2, r2⟩ := trodAll_cons r1
  obtain ⟨rfl, rfl, rfl⟩ := trodAll_nil r2
  obtain rfl : args = #[v0, v1, v2] := by cases args; simp_all
  obtain ⟨rfl, rfl⟩ := trodVars_none hV
  obtain ⟨a0, rfl, rfl, rfl, w0⟩ := open_int Try.underlying2 (hval 0 2 v0 rfl rfl) h0
  obtain ⟨a1, rfl, rfl, rfl, w1⟩ := open_int Try.underlying2 (hval 1 2 v1 rfl rfl) h1
  obtain ⟨a2, rfl, rfl, rfl, w2⟩ := open_int Try.underlying3 (hval 2 3 v2 rfl rfl) h2
  clear hA0 hval0
  refine (walk a0 a1 a2 W w0 w1 w2).mono fun e W' ⟨he, bel⟩ => ?_
  subst he
  exact ⟨_, rfl, _, _, _, [], _, [], hW', trodAll_mk1 (shut_bool Try.underlying4 _), (trodAll_cons_mk (shut_int Try.underlying2 w0) (trodAll_cons_mk (shut_int Try.underlying2 w1) (trodAll_cons_mk (shut_int Try.underlying3 w2) trodAll_mk0))), rfl, bel.frame _, fun h => by cases h⟩

theorem over : Rows.fixLeastRow.holds Try.pinned (OpenSpec.ofChange Rows.fixLeastSpec) :=
  OpenClaim.holds_of_wide 6 Try.f6 rfl rfl rfl rfl rfl rfl rfl ⟨rfl, rfl, rfl, rfl, rfl⟩ rfl rfl rfl rfl rfl (by kernel_rfl) Try.func6 (by kernel_rfl)
    (of_decide_eq_true (by kernel_rfl)) (by unfold Func.isWrapper; first | (rw [if_pos (by decide +kernel)]; kernel_rfl) | (rw [if_neg (by decide +kernel)]; exact ⟨rfl, rfl⟩))
    (fun os started H enc _ => lifted os started H enc)

theorem proved : Rows.FixLeastSaid := over
end Go.Proofs.Ytlnoclffgmcgoaa.FixLeast
