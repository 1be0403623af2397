/- ExtendWalks: for every text of at most 4096 bytes, which fields and which MAC it has is what the document's own answer comes to, or its error; joined again they are the same. (A longer one is let go by the statement itself.) No condition. -/
import Derived.Test.YtdcpohbgbnbgmaaEdY
import Derived.WalkKit
import Derived.WalkSpells
import Derived.WalkLawsBesides
import Derived.Lib.Hide
import Derived.Handy
import Derived.ProofKit
import Derived.OpenShut
import Derived.ShutString
import Derived.ChangeOld
import Derived.Below
namespace Go.Proofs.Ytdcpohbgbnbgmaa.ExtendWalks
open Go.Proofs.Ytdcpohbgbnbgmaa.W
open Go.ChangeShapes Go.WideShapes Go.ChangeAt Go.RowKit
open Go.ChangeMaps (open_string shut_string)
set_option linter.unusedVariables false
theorem own : ownKnob Try.prog.godebug = none := by kernel_rfl
theorem laidOut : laidOutB Try.prog = true := by kernel_rfl
set_option linter.unusedSimpArgs false
set_option maxHeartbeats 3200000 in
theorem walk (a0 : ByteArray) (w : World) (w0 : a0.size ≤ maxLen) :
    Calls Try.prog 3 #[.string a0] w fun e w' => e = .returned (.bool true) ∧ Below w.heap.size w w' := by
  obtain ⟨l, rfl⟩ : ∃ l, a0 = bs l := ⟨a0.data.toList, (bs_data a0).symm⟩
  have cz := xshown_any
  clear w0
  by_cases hl : 4096 < l.length
  · go_enter Try.func3, Try.ntmps3
    go_wp2_with fail
    (with_reducible refine (cz _).mono ?_)
    rintro e w1 ⟨rfl, hB⟩
    go_wp2_with fail
    go_ret
    exact ⟨rfl, hB⟩
  · have hl2 : ¬ 4096 < (l.length : Int) := by omega
    have c1 := ewalk_any l (by omega)
    have c2 := rwalk_any l (by omega)
    cases hw : walkL l with
    | none =>
      obtain ⟨e1, e2, e3⟩ := wk_no hw
      rw [e1, e2, e3] at c1 c2
      clear e1 e2 e3 hw
      go_enter Try.func3, Try.ntmps3
      go_wp2_with fail
      (with_reducible refine (cz _).mono ?_)
      rintro e w1 ⟨rfl, hB⟩
      go_wp2_with fail
      (with_reducible refine (c1 _).mono ?_)
      rintro e w2 ⟨v1, rfl, ho1, hb⟩
      have i1 := FdIn.own ho1
      obtain ⟨x1, q1, rfl⟩ := i1.slice
      change FdIn _ (.slice x1 0 q1) [] at i1
      replace hB := hB.trans (hb.mono hB.size)
      clear ho1 hb
      go_wp2_with fail
      (with_reducible refine (c2 _).mono ?_)
      rintro e w3 ⟨v2, rfl, ho2, hb⟩
      have i2 := FdIn.own ho2
      replace i1 := i1.kept hb
      replace hB := hB.trans (hb.mono hB.size)
      clear ho2 hb
      go_wp2_with fail
      (with_reducible refine (theirs_any _ (by simp) _ _ i1).mono ?_)
      rintro e w4 ⟨v3, rfl, ho3, hb⟩
      have i3 := FdIn.own ho3
      replace i2 := i2.kept hb
      replace hB := hB.trans (hb.mono hB.size)
      clear ho3 hb
      go_wp2_with fail
      (with_reducible refine (rsame_any _ _ (by simp) (by simp) _ _ _ i3 i2).mono ?_)
      rintro e w5 ⟨rfl, m, rfl⟩
      rw [show fdSame [] [] = true from rfl]
      replace hB := below_drewN hB m
      go_wp2_with fail
      go_ret
      exact ⟨rfl, hB⟩
    | some p =>
      obtain ⟨x, m⟩ := p
      obtain ⟨e1, e2, e3⟩ := wk_yes hw
      obtain ⟨j1, j2, j3, j4, j5⟩ := walk_joins hw
      obtain ⟨s1, s2⟩ := jn_yes j1
      rw [e1, e2, e3] at c1 c2
      have c3 := ejoin_any x m j3 (by omega) (by omega)
      rw [s1, s2, j2] at c3
      have hsm : fdSame x x = true := (fdSame_iff x x).2 rfl
      clear e1 e2 e3 hw j1 j2 j3 s1 s2
      go_enter Try.func3, Try.ntmps3
      go_wp2_with fail
      (with_reducible refine (cz _).mono ?_)
      rintro e w1 ⟨rfl, hB⟩
      go_wp2_with fail
      (with_reducible refine (c1 _).mono ?_)
      rintro e w2 ⟨v1, rfl, ho1, hb⟩
      have i1 := FdIn.own ho1
      obtain ⟨x1, q1, rfl⟩ := i1.slice
      replace hB := hB.trans (hb.mono hB.size)
      clear ho1 hb
      go_wp2_with fail
      (with_reducible refine (c2 _).mono ?_)
      rintro e w3 ⟨v2, rfl, ho2, hb⟩
      have i2 := FdIn.own ho2
      replace i1 := i1.kept hb
      replace hB := hB.trans (hb.mono hB.size)
      clear ho2 hb
      go_wp2_with fail
      (with_reducible refine (theirs_any _ (by omega) _ _ i1).mono ?_)
      rintro e w4 ⟨v3, rfl, ho3, hb⟩
      have i3 := FdIn.own ho3
      replace i1 := i1.kept hb
      replace i2 := i2.kept hb
      replace hB := hB.trans (hb.mono hB.size)
      clear ho3 hb
      go_wp2_with fail
      (with_reducible refine (rsame_any _ _ (by omega) (by omega) _ _ _ i3 i2).mono ?_)
      rintro e w5 ⟨rfl, q, rfl⟩
      rw [hsm]
      replace i1 := i1.kept (below_drewN (Below.refl _ _) q)
      replace hB := below_drewN hB q
      clear i2 i3
      go_wp2_with fail
      (with_reducible refine (c3 _ _ i1).mono ?_)
      rintro e w6 ⟨rfl, hb⟩
      replace hB := hB.trans (hb.mono hB.size)
      go_wp2_with fail
      go_ret
      exact ⟨rfl, hB⟩
set_option maxRecDepth 100000 in
theorem lifted (os : Os) (started : os.Started) (H : Type) (enc : TypeId × Value → H) :
    ReturnsInHanded {} Try.checked os 3 .any (Rows.extendWalksSpec.pre6 enc Try.prog Try.f3 Rows.extendWalksRow.domain false) (Rows.extendWalksSpec.post enc Try.prog Try.f3 false true false false) := by
  refine returnsInHanded_of_change (C := Try.checked) own started (by kernel_rfl) Try.func3
    (ChangeSpec.witness6 (enc := enc) (C := Try.checked) false ⟨#[], #[.string ByteArray.empty], []⟩ 8 (by kernel_rfl) (by kernel_rfl) (by kernel_rfl) (by kernel_rfl)) ?_
  intro W base args ds gs before hval0 hW hcnd _
  have hval : ∀ (j : Nat) t v, Try.f3.params[j]? = some t → args[j]? = some v → Value.okWide Try.prog W .any base t v := hval0
  have hW' := hW
  obtain ⟨p, q, hA0, hV, rfl, hfz, hnd⟩ := hW
  have hA : DataW.TrodAll enc Try.prog W 0 (fun _ => true) true Try.f3.params.toList args.toList ds p := hA0
  rw [Try.params3] at hA hval
  obtain ⟨v0, vs0, d0, ds0, p0, q0, hargs, rfl, rfl, h0, r0⟩ := trodAll_cons hA
  obtain ⟨rfl, rfl, rfl⟩ := trodAll_nil r0
  obtain rfl : args = #[v0] := by cases args; simp_all
  obtain ⟨rfl, rfl⟩ := trodVars_none hV
  obtain ⟨a0, rfl, rfl, rfl, w0⟩ := open_string Try.underlying9 (hval 0 9 v0 rfl rfl) h0
  clear hA0 hval0
  refine (walk a0 W w0).mono fun e W' ⟨he, bel⟩ => ?_
  subst he
  exact ⟨_, rfl, _, _, _, [], _, [], hW', trodAll_mk1 (shut_bool Try.underlying4 _), (trodAll_cons_mk (shut_string Try.underlying9 w0) trodAll_mk0), rfl, bel.frame _, fun h => by cases h⟩

theorem over : Rows.extendWalksRow.holds Try.pinned (OpenSpec.ofChange Rows.extendWalksSpec) :=
  OpenClaim.holds_of_wide 3 Try.f3 rfl rfl rfl rfl rfl rfl rfl ⟨rfl, rfl, rfl, rfl, rfl⟩ rfl rfl rfl rfl rfl (by kernel_rfl) Try.func3 (by kernel_rfl)
    (of_decide_eq_true (by kernel_rfl)) (by unfold Func.isWrapper; first | (rw [if_pos (by decide +kernel)]; kernel_rfl) | (rw [if_neg (by decide +kernel)]; exact ⟨rfl, rfl⟩))
    (fun os started H enc _ => lifted os started H enc)

theorem proved : Rows.ExtendWalksSaid := over
end Go.Proofs.Ytdcpohbgbnbgmaa.ExtendWalks
