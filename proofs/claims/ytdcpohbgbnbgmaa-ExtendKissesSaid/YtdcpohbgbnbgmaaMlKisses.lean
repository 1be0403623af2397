/- ExtendKisses: for every int and every uint32, which code they are, and how the reference is named, is what the document's own answers come to; a server with a stratum of its own never says no. No condition. -/
import Derived.Test.YtdcpohbgbnbgmaaEdY
import Derived.WalkKit
import Derived.WalkSpells
import Derived.WalkLawsBesides
import Derived.Lib.Hide
import Derived.Handy
import Derived.ProofKit
import Derived.OpenShut
import Derived.ShutString
import Derived.ChangeOld
import Derived.Below
namespace Go.Proofs.Ytdcpohbgbnbgmaa.ExtendKisses
open Go.Proofs.Ytdcpohbgbnbgmaa.W
open Go.ChangeShapes Go.WideShapes Go.ChangeAt Go.RowKit
open Go.ChangeMaps (open_string shut_string)
set_option linter.unusedVariables false
theorem own : ownKnob Try.prog.godebug = none := by kernel_rfl
theorem laidOut : laidOutB Try.prog = true := by kernel_rfl
set_option linter.unusedSimpArgs false
theorem kiss_range (s r : Int) : 0 ≤ kissI s r ∧ kissI s r ≤ 4 ∧ (kissI s r = 0 ↔ s ≠ 0) := by
  unfold kissI
  split
  · split
    · omega
    · split
      · omega
      · split <;> omega
  · omega
set_option maxHeartbeats 3200000 in
theorem walk (a0 a1 : Int) (w : World) (w0 : (Lit.int .i64 a0).wf = true) (w1 : (Lit.int .u32 a1).wf = true) :
    Calls Try.prog 5 #[.int .i64 a0, .int .u32 a1] w fun e w' => e = .returned (.bool true) ∧ Below w.heap.size w w' := by
  obtain ⟨l0, u0⟩ := i64_bounds w0
  obtain ⟨l1, u1⟩ := u32_bounds w1
  clear w0 w1
  have cz := xshown_any
  have c1 := ekiss_any a0 a1 l0 u0 l1 (by omega)
  have c2 := ename_any a1 l1 (by omega)
  have c3 := rkiss_any a0 a1 l0 u0 l1 (by omega)
  have c4 := rname_any a1 l1 (by omega)
  obtain ⟨k0, k1, k2⟩ := kiss_range a0 a1
  have hn : (nameL a1).length ≤ 4 := by
    have := nameF_length (be 4 a1)
    rw [be_length] at this
    exact this
  have hnl : ¬ 4 < ((nameL a1).length : Int) := by omega
  generalize nameL a1 = n at *
  generalize kissI a0 a1 = k at *
  clear hn
  by_cases hs : a0 = 0
  · subst hs
    have hk : ¬ k = 0 := by
      intro h
      exact k2.1 h rfl
    clear k2
    go_enter Try.func5, Try.ntmps5
    go_wp2_with fail
    (with_reducible refine (c1 _).mono ?_)
    rintro e v1 ⟨rfl, hB⟩
    go_wp2_with fail
    (with_reducible refine (c2 _).mono ?_)
    rintro e v2 ⟨rfl, hb⟩
    replace hB := hB.trans (hb.mono hB.size)
    go_wp2_with fail
    (with_reducible refine (c3 _).mono ?_)
    rintro e v3 ⟨rfl, rfl⟩
    go_wp2_with fail
    (with_reducible refine (c4 _).mono ?_)
    rintro e v4 ⟨rfl, hb⟩
    replace hB := hB.trans (hb.mono hB.size)
    go_wp2_with fail
    (with_reducible refine (cz _).mono ?_)
    rintro e v5 ⟨rfl, hb⟩
    replace hB := hB.trans (hb.mono hB.size)
    go_wp2_with fail
    go_ret
    exact ⟨ret1b (by simp <;> omega), hB⟩
  · have hk : k = 0 := k2.2 hs
    subst hk
    clear k2
    go_enter Try.func5, Try.ntmps5
    go_wp2_with fail
    (with_reducible refine (c1 _).mono ?_)
    rintro e v1 ⟨rfl, hB⟩
    go_wp2_with fail
    (with_reducible refine (c2 _).mono ?_)
    rintro e v2 ⟨rfl, hb⟩
    replace hB := hB.trans (hb.mono hB.size)
    go_wp2_with fail
    (with_reducible refine (c3 _).mono ?_)
    rintro e v3 ⟨rfl, rfl⟩
    go_wp2_with fail
    (with_reducible refine (c4 _).mono ?_)
    rintro e v4 ⟨rfl, hb⟩
    replace hB := hB.trans (hb.mono hB.size)
    go_wp2_with fail
    (with_reducible refine (cz _).mono ?_)
    rintro e v5 ⟨rfl, hb⟩
    replace hB := hB.trans (hb.mono hB.size)
    go_wp2_with fail
    go_ret
    exact ⟨ret1b (by simp <;> omega), hB⟩
set_option maxRecDepth 100000 in
theorem lifted (os : Os) (started : os.Started) (H : Type) (enc : TypeId × Value → H) :
    ReturnsInHanded {} Try.checked os 5 .any (Rows.extendKissesSpec.pre6 enc Try.prog Try.f5 Rows.extendKissesRow.domain false) (Rows.extendKissesSpec.post enc Try.prog Try.f5 false true false false) := by
  refine returnsInHanded_of_change (C := Try.checked) own started (by kernel_rfl) Try.func5
    (ChangeSpec.witness6 (enc := enc) (C := Try.checked) false ⟨#[], #[.int .i64 0, .int .u32 0], []⟩ 8 (by kernel_rfl) (by kernel_rfl) (by kernel_rfl) (by kernel_rfl)) ?_
  intro W base args ds gs before hval0 hW hcnd _
  have hval : ∀ (j : Nat) t v, Try.f5.params[j]? = some t → args[j]? = some v → Value.okWide Try.prog W .any base t v := hval0
  have hW' := hW
  obtain ⟨p, q, hA0, hV, rfl, hfz, hnd⟩ := hW
  have hA : DataW.TrodAll enc Try.prog W 0 (fun _ => true) true Try.f5.params.toList args.toList ds p := hA0
  rw [Try.params5] at hA hval
  obtain ⟨v0, vs0, d0, ds0, p0, q0, hargs, rfl, rfl, h0, r0⟩ := trodAll_cons hA
  obtain ⟨v1, vs1, d1, ds1, p1, q1, rfl, rfl, rfl, h1, r1⟩ := trodAll_cons r0
  obtain ⟨rfl, rfl, rfl⟩ := trodAll_nil r1
  obtain rfl : args = #[v0, v1] := by cases args; simp_all
  obtain ⟨rfl, rfl⟩ := trodVars_none hV
  obtain ⟨a0, rfl, rfl, rfl, w0⟩ := open_int Try.underlying3 (hval 0 3 v0 rfl rfl) h0
  obtain ⟨a1, rfl, rfl, rfl, w1⟩ := open_int Try.underlying38 (hval 1 38 v1 rfl rfl) h1
  clear hA0 hval0
  refine (walk a0 a1 W w0 w1).mono fun e W' ⟨he, bel⟩ => ?_
  subst he
  exact ⟨_, rfl, _, _, _, [], _, [], hW', trodAll_mk1 (shut_bool Try.underlying4 _), (trodAll_cons_mk (shut_int Try.underlying3 w0) (trodAll_cons_mk (shut_int Try.underlying38 w1) trodAll_mk0)), rfl, bel.frame _, fun h => by cases h⟩

theorem over : Rows.extendKissesRow.holds Try.pinned (OpenSpec.ofChange Rows.extendKissesSpec) :=
  OpenClaim.holds_of_wide 5 Try.f5 rfl rfl rfl rfl rfl rfl rfl ⟨rfl, rfl, rfl, rfl, rfl⟩ rfl rfl rfl rfl rfl (by kernel_rfl) Try.func5 (by kernel_rfl)
    (of_decide_eq_true (by kernel_rfl)) (by unfold Func.isWrapper; first | (rw [if_pos (by decide +kernel)]; kernel_rfl) | (rw [if_neg (by decide +kernel)]; exact ⟨rfl, rfl⟩))
    (fun os started H enc _ => lifted os started H enc)

theorem proved : Rows.ExtendKissesSaid := over
end Go.Proofs.Ytdcpohbgbnbgmaa.ExtendKisses
