/- EraNearest: for every uint32 and every int64, the time that is told lies within half an era, has that second, and is the nearest to itself. No condition. -/
import Derived.Test.YtpolcaghofnahaaEraZ
import Derived.WalkKit
import Derived.WalkSpells
import Derived.WalkLawsBesides
import Derived.Lib.Hide
import Derived.Handy
import Derived.ProofKit
import Derived.OpenShut
import Derived.ShutString
import Derived.ChangeOld
import Derived.Below
namespace Go.Proofs.Ytpolcaghofnahaa.EraNearest
open Go.Proofs.Ytpolcaghofnahaa.W
open Go.ChangeShapes Go.WideShapes Go.ChangeAt Go.RowKit
open Go.ChangeMaps (open_string shut_string)
set_option linter.unusedVariables false
theorem own : ownKnob Try.prog.godebug = none := by kernel_rfl
theorem laidOut : laidOutB Try.prog = true := by kernel_rfl
set_option linter.unusedSimpArgs false
set_option maxHeartbeats 1600000 in
theorem walk (a0 a1 : Int) (w : World) (w0 : (Lit.int .u32 a0).wf = true) (w1 : (Lit.int .i64 a1).wf = true) :
    Calls Try.prog 7 #[.int .u32 a0, .int .i64 a1] w fun e w' => e = .returned (.bool true) ∧ Below w.heap.size w w' := by
  obtain ⟨l0, u0⟩ := u32_bounds w0
  obtain ⟨l1, u1⟩ := i64_bounds w1
  clear w0 w1
  have cz := eshown_any
  have c1 := near_any a0 a1 l0 u0 l1 u1
  obtain ⟨x0, x1⟩ := nearI_range a0 a1
  have c2 := near_any a0 (nearI a0 a1) l0 u0 (by omega) (by omega)
  rw [show nearI a0 (nearI a0 a1) = nearI a0 a1 by unfold nearI abI; omega] at c2
  have hm : nearI a0 a1 % 4294967296 = a0 := by unfold nearI abI; omega
  obtain ⟨c, hc⟩ : ∃ c, abI a1 = c := ⟨_, rfl⟩
  have h2 : c - 2147483648 ≤ nearI a0 a1 ∧ nearI a0 a1 ≤ c + 2147483648 := by unfold nearI abI; unfold abI at hc; omega
  unfold abI at hc
  have hb : (a1 < -4611686018427387904 ∧ c = -4611686018427387904) ∨ (a1 = -4611686018427387904 ∧ c = -4611686018427387904) ∨ (-4611686018427387904 < a1 ∧ a1 < 4611686018427387904 ∧ c = a1) ∨ (a1 = 4611686018427387904 ∧ c = 4611686018427387904) ∨ (4611686018427387904 < a1 ∧ c = 4611686018427387904) := by omega
  generalize nearI a0 a1 = x at *
  have e1 : IntKind.u32.wrap x = a0 := by rw [IntKind.wrap_u32, hm]
  obtain ⟨h2, h3⟩ := h2
  clear hm hc
  rcases hb with ⟨hb, rfl⟩ | ⟨rfl, rfl⟩ | ⟨hb, hb', rfl⟩ | ⟨rfl, rfl⟩ | ⟨hb, rfl⟩
  all_goals
    go_enter Try.func7, Try.ntmps7
    go_wp2_with fail
    (with_reducible refine (c1 _).mono ?_)
    rintro e w' ⟨rfl, rfl⟩
    go_wp2_with fail
    (with_reducible refine (c2 _).mono ?_)
    rintro e w' ⟨rfl, rfl⟩
    go_wp2_with fail
    (with_reducible refine (cz _).mono ?_)
    rintro e w3 ⟨rfl, hb⟩
    have hB := hb
    clear hb
    go_wp2_with fail
    go_ret
    exact ⟨rfl, hB⟩
set_option maxRecDepth 100000 in
theorem lifted (os : Os) (started : os.Started) (H : Type) (enc : TypeId × Value → H) :
    ReturnsInHanded {} Try.checked os 7 .any (Rows.eraNearestSpec.pre6 enc Try.prog Try.f7 Rows.eraNearestRow.domain false) (Rows.eraNearestSpec.post enc Try.prog Try.f7 false true false false) := by
  refine returnsInHanded_of_change (C := Try.checked) own started (by kernel_rfl) Try.func7
    (ChangeSpec.witness6 (enc := enc) (C := Try.checked) false ⟨#[], #[.int .u32 0, .int .i64 0], []⟩ 8 (by kernel_rfl) (by kernel_rfl) (by kernel_rfl) (by kernel_rfl)) ?_
  intro W base args ds gs before hval0 hW hcnd _
  have hval : ∀ (j : Nat) t v, Try.f7.params[j]? = some t → args[j]? = some v → Value.okWide Try.prog W .any base t v := hval0
  have hW' := hW
  obtain ⟨p, q, hA0, hV, rfl, hfz, hnd⟩ := hW
  have hA : DataW.TrodAll enc Try.prog W 0 (fun _ => true) true Try.f7.params.toList args.toList ds p := hA0
  rw [Try.params7] at hA hval
  obtain ⟨v0, vs0, d0, ds0, p0, q0, hargs, rfl, rfl, h0, r0⟩ := trodAll_cons hA
  obtain ⟨v1, vs1, d1, ds1, p1, q1, rfl, rfl, rfl, h1, r1⟩ := trodAll_cons r0
  obtain ⟨rfl, rfl, rfl⟩ := trodAll_nil r1
  obtain rfl : args = #[v0, v1] := by cases args; simp_all
  obtain ⟨rfl, rfl⟩ := trodVars_none hV
  obtain ⟨a0, rfl, rfl, rfl, w0⟩ := open_int Try.underlying23 (hval 0 23 v0 rfl rfl) h0
  obtain ⟨a1, rfl, rfl, rfl, w1⟩ := open_int Try.underlying2 (hval 1 2 v1 rfl rfl) h1
  clear hA0 hval0
  refine (walk a0 a1 W w0 w1).mono fun e W' ⟨he, bel⟩ => ?_
  subst he
  exact ⟨_, rfl, _, _, _, [], _, [], hW', trodAll_mk1 (shut_bool Try.underlying4 _), (trodAll_cons_mk (shut_int Try.underlying23 w0) (trodAll_cons_mk (shut_int Try.underlying2 w1) trodAll_mk0)), rfl, bel.frame _, fun h => by cases h⟩

theorem over : Rows.eraNearestRow.holds Try.pinned (OpenSpec.ofChange Rows.eraNearestSpec) :=
  OpenClaim.holds_of_wide 7 Try.f7 rfl rfl rfl rfl rfl rfl rfl ⟨rfl, rfl, rfl, rfl, rfl⟩ rfl rfl rfl rfl rfl (by kernel_rfl) Try.func7 (by kernel_rfl)
    (of_decide_eq_true (by kernel_rfl)) (by unfold Func.isWrapper; first | (rw [if_pos (by decide +kernel)]; kernel_rfl) | (rw [if_neg (by decide +kernel)]; exact ⟨rfl, rfl⟩))
    (fun os started H enc _ => lifted os started H enc)

theorem proved : Rows.EraNearestSaid := over
end Go.Proofs.Ytpolcaghofnahaa.EraNearest
