/- HeaderDecodes: for every text of at most 2048 bytes, what header it has, and what is behind it, is what the document's own answer comes to, or its error; what it has, has these bytes. (A longer one is let go by the statement itself.) Condition: the package variable header.bounds holds what the text of the program lays in it (the card ties it). -/
import Derived.Test.YthfgjhffcbehbaaDoorHdY
import Derived.Test.YthfgjhffcbehbaaDoorHdL
import Derived.WalkKit
import Derived.WalkSpells
import Derived.WalkLawsBesides
import Derived.Lib.Hide
import Derived.Handy
import Derived.ProofKit
import Derived.OpenShut
import Derived.ShutString
import Derived.ChangeOld
import Derived.Below
import Derived.Lib.QuietBelow
import Derived.BigQuiet
namespace Go.Proofs.YthfgjhffcbehbaaDoor.HeaderDecodes
open Go.Proofs.YthfgjhffcbehbaaDoor.W
open Go.ChangeShapes Go.WideShapes Go.ChangeAt Go.RowKit
open Go.ChangeMaps (open_string shut_string)
set_option linter.unusedVariables false
theorem own : ownKnob Tryd.prog.godebug = none := by kernel_rfl
theorem laidOut : laidOutB Tryd.prog = true := by kernel_rfl
open Go.Sort
set_option linter.unusedSimpArgs false
theorem dec_back (l : List UInt8) (e : decE l = 0) : 48 ≤ l.length ∧ (decV l).Typed ∧ (decV l).may = true ∧ (decV l).enc ++ decR l = l := by
  have hv : decV l = decH l := by unfold decV; rw [if_pos e]
  have hr : decR l = l.drop 48 := by unfold decR; rw [if_pos e]
  unfold decE at e
  have h48 : 48 ≤ l.length := by
    apply Nat.le_of_not_lt
    intro h
    rw [if_pos h] at e
    exact absurd e (by decide)
  rw [if_neg (by omega)] at e
  have hver : ¬ ((decH l).ver < 1 ∨ 4 < (decH l).ver) := by
    intro h
    rw [if_pos h] at e
    exact absurd e (by decide)
  obtain ⟨t, b⟩ := dec_typed l h48
  refine ⟨h48, by rw [hv]; exact t, ?_, ?_⟩
  · rw [hv]
    exact Hd.Fit.may ⟨by omega, by omega, by omega, by omega, by omega, by omega⟩
  · rw [hv, hr, enc_dec l h48, List.take_append_drop]
set_option maxHeartbeats 3200000 in
set_option maxRecDepth 20000 in
theorem walk (a0 : ByteArray) (w : World) (w0 : a0.size ≤ maxLen) (HL : Laid w) :
    Calls Tryd.prog 4 #[.string a0] w fun e w' => e = .returned (.bool true) ∧ Below w.heap.size w w' := by
  obtain ⟨l, rfl⟩ : ∃ l, a0 = bs l := ⟨a0.data.toList, (bs_data a0).symm⟩
  have cz := fun w (L : Laid w) => hshown_any w L
  by_cases hl : 2048 < l.length
  · clear w0
    go_enter Tryd.func4, Tryd.ntmps4
    go_wp2_with fail
    (with_reducible refine (cz _ (by first | (with_reducible exact HL) | (with_reducible exact HL.alloc _) | (with_reducible exact (HL.alloc _).alloc _))).mono ?_)
    rintro e v1 ⟨rfl, hb⟩
    have hb' : Below w.heap.size w v1 := by first | (with_reducible exact hb) | (with_reducible exact below_in hb) | (with_reducible exact below_in (below_in hb))
    replace HL := HL.kept hb'
    have hB := hb'
    clear hb hb'
    go_wp2_with fail
    go_ret
    exact ⟨rfl, by have hz := hB.size; repeat' (first | (with_reducible exact Below.refl _ _) | (with_reducible assumption) | (with_reducible refine below_drewN ?_ _) | (with_reducible refine Below.drew ?_) | (with_reducible refine Below.setCell ?_ ?_ _) | (with_reducible refine Below.alloc ?_ ?_ _) | (simp; done) | (simp; omega) | omega)⟩
  · clear w0
    have c1 := fun w (L : Laid w) => hdec_any l (by omega) w L
    have c2 := rdec_any l (by omega)
    by_cases he : decE l = 0
    · obtain ⟨h48, t, hm, hb⟩ := dec_back l he
      have c3 := fun w (L : Laid w) => henc_any (decV l) t w L
      have c4 := fun w (L : Laid w) => hmay_any (decV l) w L
      obtain ⟨e1, e2⟩ := enc_yes hm
      rw [e1, e2] at c3
      rw [hm] at c4
      rw [he] at c1 c2
      have hen := (decV l).enc_length
      have hrl : (decR l).length ≤ l.length := by
        have := congrArg List.length hb
        rw [List.length_append] at this
        omega
      clear e1 e2 hm he t
      generalize (decV l).enc = L at *
      generalize decR l = R at *
      obtain ⟨h, hh⟩ : ∃ h, decV l = h := ⟨_, rfl⟩
      rw [hh] at c1 c2 c3 c4
      clear hh
      unfold Hd.val at *
      have hl2 : ¬ 2048 < (l.length : Int) := by omega
      clear hl h48
      go_enter Tryd.func4, Tryd.ntmps4
      go_wp2_with fail
      (with_reducible refine (cz _ (by first | (with_reducible exact HL) | (with_reducible exact HL.alloc _) | (with_reducible exact (HL.alloc _).alloc _))).mono ?_)
      rintro e v1 ⟨rfl, hb⟩
      have hb' : Below w.heap.size w v1 := by first | (with_reducible exact hb) | (with_reducible exact below_in hb) | (with_reducible exact below_in (below_in hb))
      replace HL := HL.kept hb'
      have hB := hb'
      clear hb hb'
      go_wp2_with fail
      (with_reducible refine (c1 _ (by first | (with_reducible exact HL) | (with_reducible exact HL.alloc _) | (with_reducible exact (HL.alloc _).alloc _))).mono ?_)
      rintro e v2 ⟨rfl, hb⟩
      have hb' : Below v1.heap.size v1 v2 := by first | (with_reducible exact hb) | (with_reducible exact below_in hb) | (with_reducible exact below_in (below_in hb))
      replace HL := HL.kept hb'
      replace hB := hB.trans (hb'.mono hB.size)
      clear hb hb'
      go_wp2_with fail
      (with_reducible refine (c2 _).mono ?_)
      rintro e v3 ⟨rfl, hb⟩
      have H := (HdIn.made h v2 25).kept hb
      have hb' : Below v2.heap.size v2 v3 := by first | (with_reducible exact hb) | (with_reducible exact below_in hb) | (with_reducible exact below_in (below_in hb))
      replace HL := HL.kept hb'
      replace hB := hB.trans (hb'.mono hB.size)
      clear hb hb'
      have ⟨k0_lt, k0_0, k0_1, k0_2, k0_3, k0_4, k0_5, k0_6, k0_7, k0_8, k0_9, k0_10, k0_11, k0_12⟩ := H
      go_wp2_with fail
      (with_reducible refine (c3 _ (by first | (with_reducible exact HL) | (with_reducible exact HL.alloc _) | (with_reducible exact (HL.alloc _).alloc _))).mono ?_)
      rintro e v4 ⟨rfl, hb⟩
      have hb' : Below v3.heap.size v3 v4 := by first | (with_reducible exact hb) | (with_reducible exact below_in hb) | (with_reducible exact below_in (below_in hb))
      replace H := H.kept hb'
      replace HL := HL.kept hb'
      replace hB := hB.trans (hb'.mono hB.size)
      clear hb hb'
      clear k0_0 k0_1 k0_2 k0_3 k0_4 k0_5 k0_6 k0_7 k0_8 k0_9 k0_10 k0_11 k0_12 k0_lt
      have ⟨k0_lt, k0_0, k0_1, k0_2, k0_3, k0_4, k0_5, k0_6, k0_7, k0_8, k0_9, k0_10, k0_11, k0_12⟩ := H
      go_wp2_with fail
      (with_reducible refine (c4 _ (by first | (with_reducible exact HL) | (with_reducible exact HL.alloc _) | (with_reducible exact (HL.alloc _).alloc _))).mono ?_)
      rintro e v5 ⟨rfl, hb⟩
      have hb' : Below v4.heap.size v4 v5 := by first | (with_reducible exact hb) | (with_reducible exact below_in hb) | (with_reducible exact below_in (below_in hb))
      replace H := H.kept hb'
      replace HL := HL.kept hb'
      replace hB := hB.trans (hb'.mono hB.size)
      clear hb hb'
      clear k0_0 k0_1 k0_2 k0_3 k0_4 k0_5 k0_6 k0_7 k0_8 k0_9 k0_10 k0_11 k0_12 k0_lt
      have ⟨k0_lt, k0_0, k0_1, k0_2, k0_3, k0_4, k0_5, k0_6, k0_7, k0_8, k0_9, k0_10, k0_11, k0_12⟩ := H
      go_wp2_with fail
      go_ret
      exact ⟨rfl, by have hz := hB.size; repeat' (first | (with_reducible exact Below.refl _ _) | (with_reducible assumption) | (with_reducible refine below_drewN ?_ _) | (with_reducible refine Below.drew ?_) | (with_reducible refine Below.setCell ?_ ?_ _) | (with_reducible refine Below.alloc ?_ ?_ _) | (simp; done) | (simp; omega) | omega)⟩
    · have hv : decV l = Hd.zero := by unfold decV; rw [if_neg he]
      have hr : decR l = [] := by unfold decR; rw [if_neg he]
      rw [hv, hr] at c1 c2
      have hn : (decE l == 0) = false := by simpa using he
      generalize decE l = E at *
      have hl2 : ¬ 2048 < (l.length : Int) := by omega
      clear hl hv hr he
      unfold Hd.val at *
      go_enter Tryd.func4, Tryd.ntmps4
      go_wp2_with fail
      (with_reducible refine (cz _ (by first | (with_reducible exact HL) | (with_reducible exact HL.alloc _) | (with_reducible exact (HL.alloc _).alloc _))).mono ?_)
      rintro e v1 ⟨rfl, hb⟩
      have hb' : Below w.heap.size w v1 := by first | (with_reducible exact hb) | (with_reducible exact below_in hb) | (with_reducible exact below_in (below_in hb))
      replace HL := HL.kept hb'
      have hB := hb'
      clear hb hb'
      go_wp2_with fail
      (with_reducible refine (c1 _ (by first | (with_reducible exact HL) | (with_reducible exact HL.alloc _) | (with_reducible exact (HL.alloc _).alloc _))).mono ?_)
      rintro e v2 ⟨rfl, hb⟩
      have hb' : Below v1.heap.size v1 v2 := by first | (with_reducible exact hb) | (with_reducible exact below_in hb) | (with_reducible exact below_in (below_in hb))
      replace HL := HL.kept hb'
      replace hB := hB.trans (hb'.mono hB.size)
      clear hb hb'
      go_wp2_with fail
      (with_reducible refine (c2 _).mono ?_)
      rintro e v3 ⟨rfl, hb⟩
      have H := (HdIn.made Hd.zero v2 25).kept hb
      have hb' : Below v2.heap.size v2 v3 := by first | (with_reducible exact hb) | (with_reducible exact below_in hb) | (with_reducible exact below_in (below_in hb))
      replace HL := HL.kept hb'
      replace hB := hB.trans (hb'.mono hB.size)
      clear hb hb'
      have ⟨k0_lt, k0_0, k0_1, k0_2, k0_3, k0_4, k0_5, k0_6, k0_7, k0_8, k0_9, k0_10, k0_11, k0_12⟩ := H
      go_wp2_with fail
      go_ret
      exact ⟨rfl, by have hz := hB.size; repeat' (first | (with_reducible exact Below.refl _ _) | (with_reducible assumption) | (with_reducible refine below_drewN ?_ _) | (with_reducible refine Below.drew ?_) | (with_reducible refine Below.setCell ?_ ?_ _) | (with_reducible refine Below.alloc ?_ ?_ _) | (simp; done) | (simp; omega) | omega)⟩
set_option maxRecDepth 100000 in
theorem lifted (os : Os) (started : os.Started) (H : Type) (enc : TypeId × Value → H) :
    ReturnsInHanded {} Tryd.checked os 4 .any (fun w args => (Rows.headerDecodesSpec.pre enc Tryd.prog Tryd.f4 [] false w args ∧ laidMetH Tryd.prog Rows.headerDecodesRow.laid w) ∧ sizedMet enc Tryd.prog Tryd.f4 (OpenSpec.ofChange Rows.headerDecodesSpec) false w args) (Rows.headerDecodesSpec.post enc Tryd.prog Tryd.f4 false true false false) := by
  refine returnsInHanded_of_change_and (C := Tryd.checked) (X := fun w _ => laidMetH Tryd.prog Rows.headerDecodesRow.laid w) (fun _ _ _ hh h => h.of_heap hh) own started (by kernel_rfl) Tryd.func4
    (ChangeSpec.witness_shaped (enc := enc) (C := Tryd.checked) (os := os) (X := fun w _ => laidMetH Tryd.prog Rows.headerDecodesRow.laid w) false (World.doorLaid Tryd.prog 400 os) #[.string ByteArray.empty] 8 rfl (World.shaped_of_RefB (by kernel_rfl) (by kernel_rfl)) (by kernel_rfl) (by kernel_rfl) (by kernel_rfl) (door_met os _)) ?_
  intro W base args ds gs before hval0 hW _ _ hL _
  have hval : ∀ (j : Nat) t v, Tryd.f4.params[j]? = some t → args[j]? = some v → Value.okWide Tryd.prog W .any base t v := hval0
  have hW' := hW
  obtain ⟨p, q, hA0, hV, rfl, hfz, hnd⟩ := hW
  have hA : DataW.TrodAll enc Tryd.prog W 0 (fun _ => true) true Tryd.f4.params.toList args.toList ds p := hA0
  rw [Tryd.params4] at hA hval
  obtain ⟨v0, vs0, d0, ds0, p0, q0, hargs, rfl, rfl, h0, r0⟩ := trodAll_cons hA
  obtain ⟨rfl, rfl, rfl⟩ := trodAll_nil r0
  obtain rfl : args = #[v0] := by cases args; simp_all
  obtain ⟨rfl, rfl⟩ := trodVars_none hV
  obtain ⟨a0, rfl, rfl, rfl, w0⟩ := open_string Tryd.underlying9 (hval 0 9 v0 rfl rfl) h0
  clear hA0 hval0
  refine (walk a0 W w0 (of_laid hL)).mono fun e W' ⟨he, bel⟩ => ?_
  subst he
  exact ⟨_, rfl, _, _, _, [], _, [], hW', trodAll_mk1 (shut_bool Tryd.underlying4 _), (trodAll_cons_mk (shut_string Tryd.underlying9 w0) trodAll_mk0), rfl, bel.frame _, fun h => by cases h⟩

theorem over : Rows.headerDecodesRow.holds Tryd.pinned (OpenSpec.ofChange Rows.headerDecodesSpec) :=
  OpenClaim.holds_of_wide 4 Tryd.f4 rfl rfl rfl rfl rfl rfl rfl ⟨rfl, rfl, rfl, rfl, rfl⟩ rfl rfl rfl rfl rfl (by kernel_rfl) Tryd.func4 (by kernel_rfl)
    (of_decide_eq_true (by kernel_rfl)) (by unfold Func.isWrapper; first | (rw [if_pos (by decide +kernel)]; kernel_rfl) | (rw [if_neg (by decide +kernel)]; exact ⟨rfl, rfl⟩))
    (fun os started H enc _ => lifted os started H enc)

theorem proved : Rows.HeaderDecodesCardSaid :=
  Claim7.holds_tied_plain_at .later [] [.data] true Rows.headerDecodesCard.stood.harness false
    over (fun _ h => by cases h) (by kernel_rfl) (fun _ h => by cases h) headerDecodes_row_tie rfl ⟨rfl, rfl⟩ (by kernel_rfl) rfl
    (fun f fn hf hfn => by
      obtain rfl : f = 4 := Option.some.inj ((show Tryd.prog.funcNamed "analemma/analemmalaw05.HeaderDecodes" = some 4 by kernel_rfl).symm.trans hf) |>.symm
      obtain rfl : fn = Tryd.f4 := (Option.some.inj (Tryd.func4.symm.trans hfn)).symm
      exact ⟨by kernel_rfl, fun j t ht => by
        rw [Tryd.params4] at ht
        have hm : t ∈ [9] := by simpa using Array.mem_of_getElem? ht
        have hall : ([9].all fun u => !Tryd.prog.wantsStandIn u) = true := by kernel_rfl
        exact (show Tryd.prog.wantsStandIn t = false by simpa using List.all_eq_true.1 hall t hm)⟩)
    (by kernel_rfl)
end Go.Proofs.YthfgjhffcbehbaaDoor.HeaderDecodes
