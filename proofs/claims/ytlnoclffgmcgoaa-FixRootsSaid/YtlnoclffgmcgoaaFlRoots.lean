/- FixRoots: for every int64, its root's square is not above it, where it is not below 0, and the root is not below 0; the root of the square of as many whole seconds as have a square is that number. No condition. -/
import Derived.Test.YtlnoclffgmcgoaaFixZ
import Derived.WalkKit
import Derived.WalkSpells
import Derived.WalkLawsBesides
import Derived.Lib.Hide
import Derived.Handy
import Derived.ProofKit
import Derived.OpenShut
import Derived.ShutString
import Derived.ChangeOld
import Derived.Below
namespace Go.Proofs.Ytlnoclffgmcgoaa.FixRoots
open Go.Proofs.Ytlnoclffgmcgoaa.W
open Go.ChangeShapes Go.WideShapes Go.ChangeAt Go.RowKit
open Go.ChangeMaps (open_string shut_string)
set_option linter.unusedVariables false
theorem own : ownKnob Try.prog.godebug = none := by kernel_rfl
theorem laidOut : laidOutB Try.prog = true := by kernel_rfl
set_option linter.unusedSimpArgs false
theorem root_sq (a : Int) (h : 0 ≤ a) (h' : a ≤ 9223372036854775807) : mulI (rootI a) (rootI a) ≤ a := by
  have h1 := (le_rootI a (rootI a) h (rootI_nonneg a)).mp (Int.le_refl _)
  have : rootI a * rootI a / 4294967296 ≤ a := by
    apply Int.le_of_lt_add_one
    apply Int.ediv_lt_of_lt_mul (by decide)
    omega
  unfold mulI
  have := cutI_mono this
  rw [cutI_in a (by omega) h'] at this
  exact this
theorem sq_root (m : Int) (h : 0 ≤ m) (h' : m < 46340) : mulI (m * 4294967296) (m * 4294967296) = m * m * 4294967296 ∧ 0 ≤ m * m * 4294967296 ∧ m * m * 4294967296 ≤ 9223372036854775807 ∧ rootI (m * m * 4294967296) = m * 4294967296 := by
  have hm : 0 ≤ m * m := Int.mul_nonneg h h
  have hm2 : m * m ≤ 46339 * 46339 := by
    have h1 : m * m ≤ 46339 * m := Int.mul_le_mul_of_nonneg_right (by omega) h
    omega
  have e : m * 4294967296 * (m * 4294967296) = m * m * 4294967296 * 4294967296 := by grind
  refine ⟨?_, by omega, by omega, ?_⟩
  · unfold mulI
    rw [e, Int.mul_ediv_cancel _ (by decide), cutI_in _ (by omega) (by omega)]
  · exact rootI_of _ _ (by omega) (by omega) e
set_option maxHeartbeats 3200000 in
theorem walk (a0 a1 : Int) (w : World) (w0 : (Lit.int .i64 a0).wf = true) (w1 : (Lit.int .u32 a1).wf = true) :
    Calls Try.prog 10 #[.int .i64 a0, .int .u32 a1] w fun e w' => e = .returned (.bool true) ∧ Below w.heap.size w w' := by
  obtain ⟨p0, p1⟩ := i64_bounds w0
  have q := bounds_u32 w1
  clear w0 w1
  obtain ⟨q0, q1⟩ : 0 ≤ a1 ∧ a1 < 4294967296 := by omega
  have r0 := rootI_nonneg a0
  have r1 := rootI_lt a0 p1
  have m0 : 0 ≤ a1 % 46340 ∧ a1 % 46340 < 46340 := by omega
  obtain ⟨m0, m1⟩ := m0
  obtain ⟨s1, s2, s3, s4⟩ := sq_root (a1 % 46340) m0 m1
  have c1 := fsqrt_any a0 p0 p1
  have c2 := fmul_any (rootI a0) (rootI a0) (by omega) (by omega) (by omega) (by omega)
  have c3 := fmul_any (a1 % 46340 * 4294967296) (a1 % 46340 * 4294967296) (by omega) (by omega) (by omega) (by omega)
  rw [s1] at c3
  have c4 := fsqrt_any (a1 % 46340 * (a1 % 46340) * 4294967296) (by omega) s3
  rw [s4] at c4
  have hq : 0 ≤ a0 → mulI (rootI a0) (rootI a0) ≤ a0 := fun h => root_sq a0 h p1
  clear s1 s2 s3 s4
  generalize mulI (rootI a0) (rootI a0) = y at *
  generalize rootI a0 = r at *
  generalize a1 % 46340 * (a1 % 46340) * 4294967296 = z at *
  by_cases h : a0 < 0
  · clear hq
    go_enter Try.func10, Try.ntmps10
    go_wp2_with fail
    (with_reducible refine (c1 _).mono ?_)
    rintro e w1 ⟨rfl, hb⟩
    have hB := hb
    clear hb
    go_wp2_with fail
    (with_reducible refine (c3 _).mono ?_)
    rintro e w2 ⟨rfl, hb⟩
    replace hB := hB.trans (hb.mono hB.size)
    clear hb
    go_wp2_with fail
    (with_reducible refine (c4 _).mono ?_)
    rintro e w3 ⟨rfl, hb⟩
    replace hB := hB.trans (hb.mono hB.size)
    clear hb
    go_wp2_with fail
    (with_reducible refine (fshown_any _).mono ?_)
    rintro e w4 ⟨rfl, hb⟩
    replace hB := hB.trans (hb.mono hB.size)
    clear hb
    go_wp2_with fail
    go_ret
    exact ⟨rfl, hB⟩
  · have hq2 := hq (by omega)
    clear hq
    go_enter Try.func10, Try.ntmps10
    go_wp2_with fail
    (with_reducible refine (c1 _).mono ?_)
    rintro e w1 ⟨rfl, hb⟩
    have hB := hb
    clear hb
    go_wp2_with fail
    (with_reducible refine (c2 _).mono ?_)
    rintro e w2 ⟨rfl, hb⟩
    replace hB := hB.trans (hb.mono hB.size)
    clear hb
    go_wp2_with fail
    (with_reducible refine (c3 _).mono ?_)
    rintro e w3 ⟨rfl, hb⟩
    replace hB := hB.trans (hb.mono hB.size)
    clear hb
    go_wp2_with fail
    (with_reducible refine (c4 _).mono ?_)
    rintro e w4 ⟨rfl, hb⟩
    replace hB := hB.trans (hb.mono hB.size)
    clear hb
    go_wp2_with fail
    (with_reducible refine (fshown_any _).mono ?_)
    rintro e w5 ⟨rfl, hb⟩
    replace hB := hB.trans (hb.mono hB.size)
    clear hb
    go_wp2_with fail
    go_ret
    exact ⟨rfl, hB⟩
set_option maxRecDepth 100000 in
theorem lifted (os : Os) (started : os.Started) (H : Type) (enc : TypeId × Value → H) :
    ReturnsInHanded {} Try.checked os 10 .any (Rows.fixRootsSpec.pre6 enc Try.prog Try.f10 Rows.fixRootsRow.domain false) (Rows.fixRootsSpec.post enc Try.prog Try.f10 false true false false) := by
  refine returnsInHanded_of_change (C := Try.checked) own started (by kernel_rfl) Try.func10
    (ChangeSpec.witness6 (enc := enc) (C := Try.checked) false ⟨#[], #[.int .i64 0, .int .u32 0], []⟩ 8 (by kernel_rfl) (by kernel_rfl) (by kernel_rfl) (by kernel_rfl)) ?_
  intro W base args ds gs before hval0 hW hcnd _
  have hval : ∀ (j : Nat) t v, Try.f10.params[j]? = some t → args[j]? = some v → Value.okWide Try.prog W .any base t v := hval0
  have hW' := hW
  obtain ⟨p, q, hA0, hV, rfl, hfz, hnd⟩ := hW
  have hA : DataW.TrodAll enc Try.prog W 0 (fun _ => true) true Try.f10.params.toList args.toList ds p := hA0
  rw [Try.params10] at hA hval
  obtain ⟨v0, vs0, d0, ds0, p0, q0, hargs, rfl, rfl, h0, r0⟩ := trodAll_cons hA
  obtain ⟨v1, vs1, d1, ds1, p1, q1, rfl, rfl, rfl, h1, r1⟩ := trodAll_cons r0
  obtain ⟨rfl, rfl, rfl⟩ := trodAll_nil r1
  obtain rfl : args = #[v0, v1] := by cases args; simp_all
  obtain ⟨rfl, rfl⟩ := trodVars_none hV
  obtain ⟨a0, rfl, rfl, rfl, w0⟩ := open_int Try.underlying2 (hval 0 2 v0 rfl rfl) h0
  obtain ⟨a1, rfl, rfl, rfl, w1⟩ := open_int Try.underlying38 (hval 1 38 v1 rfl rfl) h1
  clear hA0 hval0
  refine (walk a0 a1 W w0 w1).mono fun e W' ⟨he, bel⟩ => ?_
  subst he
  exact ⟨_, rfl, _, _, _, [], _, [], hW', trodAll_mk1 (shut_bool Try.underlying4 _), (trodAll_cons_mk (shut_int Try.underlying2 w0) (trodAll_cons_mk (shut_int Try.underlying38 w1) trodAll_mk0)), rfl, bel.frame _, fun h => by cases h⟩

theorem over : Rows.fixRootsRow.holds Try.pinned (OpenSpec.ofChange Rows.fixRootsSpec) :=
  OpenClaim.holds_of_wide 10 Try.f10 rfl rfl rfl rfl rfl rfl rfl ⟨rfl, rfl, rfl, rfl, rfl⟩ rfl rfl rfl rfl rfl (by kernel_rfl) Try.func10 (by kernel_rfl)
    (of_decide_eq_true (by kernel_rfl)) (by unfold Func.isWrapper; first | (rw [if_pos (by decide +kernel)]; kernel_rfl) | (rw [if_neg (by decide +kernel)]; exact ⟨rfl, rfl⟩))
    (fun os started H enc _ => lifted os started H enc)

theorem proved : Rows.FixRootsSaid := over
end Go.Proofs.Ytlnoclffgmcgoaa.FixRoots
