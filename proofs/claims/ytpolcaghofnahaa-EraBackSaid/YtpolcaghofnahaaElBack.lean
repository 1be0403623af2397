/- EraBack: for every two stamps and every int64, what is put to a stamp is its difference, there and back it is the same, and differences are turned. No condition. -/
import Derived.Test.YtpolcaghofnahaaEraZ
import Derived.WalkKit
import Derived.WalkSpells
import Derived.WalkLawsBesides
import Derived.Lib.Hide
import Derived.Handy
import Derived.ProofKit
import Derived.OpenShut
import Derived.ShutString
import Derived.ChangeOld
import Derived.Below
namespace Go.Proofs.Ytpolcaghofnahaa.EraBack
open Go.Proofs.Ytpolcaghofnahaa.W
open Go.ChangeShapes Go.WideShapes Go.ChangeAt Go.RowKit
open Go.ChangeMaps (open_string shut_string)
set_option linter.unusedVariables false
theorem own : ownKnob Try.prog.godebug = none := by kernel_rfl
theorem laidOut : laidOutB Try.prog = true := by kernel_rfl
set_option linter.unusedSimpArgs false
set_option maxHeartbeats 1600000 in
theorem walk (a0 a1 a2 : Int) (w : World) (w0 : (Lit.int .u64 a0).wf = true) (w1 : (Lit.int .u64 a1).wf = true) (w2 : (Lit.int .i64 a2).wf = true) :
    Calls Try.prog 5 #[.int .u64 a0, .int .u64 a1, .int .i64 a2] w fun e w' => e = .returned (.bool true) ∧ Below w.heap.size w w' := by
  obtain ⟨l0, u0⟩ := u64_bounds w0
  obtain ⟨l1, u1⟩ := u64_bounds w1
  obtain ⟨l2, u2⟩ := i64_bounds w2
  clear w0 w1 w2
  have cz := eshown_any
  obtain ⟨d, hd⟩ : ∃ d, max a2 (-9223372036854775807) = d := ⟨_, rfl⟩
  obtain ⟨d0, d1⟩ : -9223372036854775807 ≤ d ∧ d ≤ 9223372036854775807 := by omega
  have c1 := pl_any a0 d l0 u0 (by omega) d1
  obtain ⟨p, hp⟩ : ∃ p, plI a0 d = p := ⟨_, rfl⟩
  obtain ⟨p0, p1⟩ := plI_range a0 d
  have c2 := df_any (plI a0 d) a0 p0 p1 l0 u0
  rw [show dfI (plI a0 d) a0 = d by unfold dfI plI; omega] at c2
  have c3 := pl_any (plI a0 d) (-d) p0 p1 (by omega) (by omega)
  rw [show plI (plI a0 d) (-d) = a0 by unfold plI; omega] at c3
  rw [hp] at c1 c2 c3 p0 p1
  clear hp
  have c4 := df_any a0 a1 l0 u0 l1 u1
  have c5 := df_any a1 a0 l1 u1 l0 u0
  obtain ⟨x, hx⟩ : ∃ x, dfI a0 a1 = x := ⟨_, rfl⟩
  obtain ⟨y, hy⟩ : ∃ y, dfI a1 a0 = y := ⟨_, rfl⟩
  obtain ⟨x0, x1⟩ := dfI_range a0 a1
  obtain ⟨y0, y1⟩ := dfI_range a1 a0
  rw [hx] at c4 x0 x1
  rw [hy] at c5 y0 y1
  have c6 := pl_any a1 x l1 u1 (by omega) (by omega)
  have hh : (x = -9223372036854775807 ∧ y = -9223372036854775807 ∧ (a0 - a1) % 18446744073709551616 = 9223372036854775808) ∨ (y = -x ∧ plI a1 x = a0) := by
    unfold dfI at hx hy; unfold plI; omega
  clear hx hy
  have hd2 : (a2 < -9223372036854775807 ∧ d = -9223372036854775807) ∨ (a2 = -9223372036854775807 ∧ d = a2) ∨ (-9223372036854775807 < a2 ∧ d = a2) := by omega
  clear hd
  rcases hh with ⟨rfl, rfl, hw⟩ | ⟨rfl, hb⟩
  · have e1 : IntKind.u64.wrap (a0 - a1) = 9223372036854775808 := by rw [IntKind.wrap_u64, hw]
    clear hw
    rcases hd2 with ⟨hd, rfl⟩ | ⟨rfl, rfl⟩ | ⟨hd, rfl⟩
    all_goals
      try simp only [Int.neg_neg] at c3
      try simp only [Int.neg_neg] at c5
      go_enter Try.func5, Try.ntmps5
      go_wp2_with fail
      (with_reducible refine (c1 _).mono ?_)
      rintro e w' ⟨rfl, rfl⟩
      go_wp2_with fail
      (with_reducible refine (c2 _).mono ?_)
      rintro e w2 ⟨rfl, hb⟩
      have hB := hb
      clear hb
      go_wp2_with fail
      (with_reducible refine (c1 _).mono ?_)
      rintro e w' ⟨rfl, rfl⟩
      go_wp2_with fail
      (with_reducible refine (c3 _).mono ?_)
      rintro e w' ⟨rfl, rfl⟩
      go_wp2_with fail
      (with_reducible refine (cz _).mono ?_)
      rintro e w5 ⟨rfl, hb⟩
      replace hB := hB.trans (hb.mono hB.size)
      clear hb
      go_wp2_with fail
      (with_reducible refine (c4 _).mono ?_)
      rintro e w6 ⟨rfl, hb⟩
      replace hB := hB.trans (hb.mono hB.size)
      clear hb
      go_wp2_with fail
      (with_reducible refine (c5 _).mono ?_)
      rintro e w7 ⟨rfl, hb⟩
      replace hB := hB.trans (hb.mono hB.size)
      clear hb
      go_wp2_with fail
      go_ret
      exact ⟨rfl, hB⟩
  · rw [hb] at c6
    clear hb
    have hx : (x = -9223372036854775807 ∨ x = 9223372036854775807) ∨ (x ≠ -9223372036854775807 ∧ x ≠ 9223372036854775807) := by omega
    rcases hx with hx | ⟨hx, hy⟩
    · rcases hx with rfl | rfl <;> rcases hd2 with ⟨hd, rfl⟩ | ⟨rfl, rfl⟩ | ⟨hd, rfl⟩
      all_goals
        try simp only [Int.neg_neg] at c3
        try simp only [Int.neg_neg] at c5
        go_enter Try.func5, Try.ntmps5
        go_wp2_with fail
        (with_reducible refine (c1 _).mono ?_)
        rintro e w' ⟨rfl, rfl⟩
        go_wp2_with fail
        (with_reducible refine (c2 _).mono ?_)
        rintro e w2 ⟨rfl, hb⟩
        have hB := hb
        clear hb
        go_wp2_with fail
        (with_reducible refine (c1 _).mono ?_)
        rintro e w' ⟨rfl, rfl⟩
        go_wp2_with fail
        (with_reducible refine (c3 _).mono ?_)
        rintro e w' ⟨rfl, rfl⟩
        go_wp2_with fail
        (with_reducible refine (cz _).mono ?_)
        rintro e w5 ⟨rfl, hb⟩
        replace hB := hB.trans (hb.mono hB.size)
        clear hb
        go_wp2_with fail
        (with_reducible refine (c4 _).mono ?_)
        rintro e w6 ⟨rfl, hb⟩
        replace hB := hB.trans (hb.mono hB.size)
        clear hb
        go_wp2_with fail
        (with_reducible refine (c5 _).mono ?_)
        rintro e w7 ⟨rfl, hb⟩
        replace hB := hB.trans (hb.mono hB.size)
        clear hb
        go_wp2_with fail
        go_ret
        exact ⟨rfl, hB⟩
    · rcases hd2 with ⟨hd, rfl⟩ | ⟨rfl, rfl⟩ | ⟨hd, rfl⟩
      all_goals
        try simp only [Int.neg_neg] at c3
        try simp only [Int.neg_neg] at c5
        go_enter Try.func5, Try.ntmps5
        go_wp2_with fail
        (with_reducible refine (c1 _).mono ?_)
        rintro e w' ⟨rfl, rfl⟩
        go_wp2_with fail
        (with_reducible refine (c2 _).mono ?_)
        rintro e w2 ⟨rfl, hb⟩
        have hB := hb
        clear hb
        go_wp2_with fail
        (with_reducible refine (c1 _).mono ?_)
        rintro e w' ⟨rfl, rfl⟩
        go_wp2_with fail
        (with_reducible refine (c3 _).mono ?_)
        rintro e w' ⟨rfl, rfl⟩
        go_wp2_with fail
        (with_reducible refine (cz _).mono ?_)
        rintro e w5 ⟨rfl, hb⟩
        replace hB := hB.trans (hb.mono hB.size)
        clear hb
        go_wp2_with fail
        (with_reducible refine (c4 _).mono ?_)
        rintro e w6 ⟨rfl, hb⟩
        replace hB := hB.trans (hb.mono hB.size)
        clear hb
        go_wp2_with fail
        (with_reducible refine (c5 _).mono ?_)
        rintro e w7 ⟨rfl, hb⟩
        replace hB := hB.trans (hb.mono hB.size)
        clear hb
        go_wp2_with fail
        (with_reducible refine (c6 _).mono ?_)
        rintro e w' ⟨rfl, rfl⟩
        go_wp2_with fail
        go_ret
        exact ⟨rfl, hB⟩
set_option maxRecDepth 100000 in
theorem lifted (os : Os) (started : os.Started) (H : Type) (enc : TypeId × Value → H) :
    ReturnsInHanded {} Try.checked os 5 .any (Rows.eraBackSpec.pre6 enc Try.prog Try.f5 Rows.eraBackRow.domain false) (Rows.eraBackSpec.post enc Try.prog Try.f5 false true false false) := by
  refine returnsInHanded_of_change (C := Try.checked) own started (by kernel_rfl) Try.func5
    (ChangeSpec.witness6 (enc := enc) (C := Try.checked) false ⟨#[], #[.int .u64 0, .int .u64 0, .int .i64 0], []⟩ 8 (by kernel_rfl) (by kernel_rfl) (by kernel_rfl) (by kernel_rfl)) ?_
  intro W base args ds gs before hval0 hW hcnd _
  have hval : ∀ (j : Nat) t v, Try.f5.params[j]? = some t → args[j]? = some v → Value.okWide Try.prog W .any base t v := hval0
  have hW' := hW
  obtain ⟨p, q, hA0, hV, rfl, hfz, hnd⟩ := hW
  have hA : DataW.TrodAll enc Try.prog W 0 (fun _ => true) true Try.f5.params.toList args.toList ds p := hA0
  rw [Try.params5] at hA hval
  obtain ⟨v0, vs0, d0, ds0, p0, q0, hargs, rfl, rfl, h0, r0⟩ := trodAll_cons hA
  obtain ⟨v1, vs1, d1, ds1, p1, q1, rfl, rfl, rfl, h1, r1⟩ := trodAll_cons r0
  obtain ⟨v2, vs2, d2, ds2, p2, q2, rfl, rfl, rfl, h2, r2⟩ := trodAll_cons r1
  obtain ⟨rfl, rfl, rfl⟩ := trodAll_nil r2
  obtain rfl : args = #[v0, v1, v2] := by cases args; simp_all
  obtain ⟨rfl, rfl⟩ := trodVars_none hV
  obtain ⟨a0, rfl, rfl, rfl, w0⟩ := open_int Try.underlying22 (hval 0 22 v0 rfl rfl) h0
  obtain ⟨a1, rfl, rfl, rfl, w1⟩ := open_int Try.underlying22 (hval 1 22 v1 rfl rfl) h1
  obtain ⟨a2, rfl, rfl, rfl, w2⟩ := open_int Try.underlying2 (hval 2 2 v2 rfl rfl) h2
  clear hA0 hval0
  refine (walk a0 a1 a2 W w0 w1 w2).mono fun e W' ⟨he, bel⟩ => ?_
  subst he
  exact ⟨_, rfl, _, _, _, [], _, [], hW', trodAll_mk1 (shut_bool Try.underlying4 _), (trodAll_cons_mk (shut_int Try.underlying22 w0) (trodAll_cons_mk (shut_int Try.underlying22 w1) (trodAll_cons_mk (shut_int Try.underlying2 w2) trodAll_mk0))), rfl, bel.frame _, fun h => by cases h⟩

theorem over : Rows.eraBackRow.holds Try.pinned (OpenSpec.ofChange Rows.eraBackSpec) :=
  OpenClaim.holds_of_wide 5 Try.f5 rfl rfl rfl rfl rfl rfl rfl ⟨rfl, rfl, rfl, rfl, rfl⟩ rfl rfl rfl rfl rfl (by kernel_rfl) Try.func5 (by kernel_rfl)
    (of_decide_eq_true (by kernel_rfl)) (by unfold Func.isWrapper; first | (rw [if_pos (by decide +kernel)]; kernel_rfl) | (rw [if_neg (by decide +kernel)]; exact ⟨rfl, rfl⟩))
    (fun os started H enc _ => lifted os started H enc)

theorem proved : Rows.EraBackSaid := over
end Go.Proofs.Ytpolcaghofnahaa.EraBack
