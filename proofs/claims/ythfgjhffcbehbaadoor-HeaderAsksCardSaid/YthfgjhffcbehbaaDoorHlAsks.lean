/- HeaderAsks: for every two ints, every uint64 and every text of at most 2048 bytes, the question's bytes, or its error, and the text's reference are the ones that the document's own answers come to. (A longer text is let go by the statement itself.) Condition: the package variable header.bounds holds what the text of the program lays in it (the card ties it). -/
import Derived.Test.YthfgjhffcbehbaaDoorHdY
import Derived.Test.YthfgjhffcbehbaaDoorHdL
import Derived.WalkKit
import Derived.WalkSpells
import Derived.WalkLawsBesides
import Derived.Lib.Hide
import Derived.Handy
import Derived.ProofKit
import Derived.OpenShut
import Derived.ShutString
import Derived.ChangeOld
import Derived.Below
import Derived.Lib.QuietBelow
import Derived.BigQuiet
namespace Go.Proofs.YthfgjhffcbehbaaDoor.HeaderAsks
open Go.Proofs.YthfgjhffcbehbaaDoor.W
open Go.ChangeShapes Go.WideShapes Go.ChangeAt Go.RowKit
open Go.ChangeMaps (open_string shut_string)
set_option linter.unusedVariables false
theorem own : ownKnob Tryd.prog.godebug = none := by kernel_rfl
theorem laidOut : laidOutB Tryd.prog = true := by kernel_rfl
open Go.Sort
set_option linter.unusedSimpArgs false
set_option maxHeartbeats 3200000 in
set_option maxRecDepth 20000 in
theorem walk (a0 a1 a2 : Int) (a3 : ByteArray) (w : World) (w0 : (Lit.int .i64 a0).wf = true) (w1 : (Lit.int .i64 a1).wf = true) (w2 : (Lit.int .u64 a2).wf = true) (w3 : a3.size ≤ maxLen) (HL : Laid w) :
    Calls Tryd.prog 5 #[.int .i64 a0, .int .i64 a1, .int .u64 a2, .string a3] w fun e w' => e = .returned (.bool true) ∧ Below w.heap.size w w' := by
  obtain ⟨l0, u0⟩ := i64_bounds w0
  obtain ⟨l1, u1⟩ := i64_bounds w1
  obtain ⟨l2, u2⟩ := u64_bounds w2
  clear w0 w1 w2
  obtain ⟨l, rfl⟩ : ∃ l, a3 = bs l := ⟨a3.data.toList, (bs_data a3).symm⟩
  have cz := fun w (L : Laid w) => hshown_any w L
  by_cases hl : 2048 < l.length
  · clear w3
    go_enter Tryd.func5, Tryd.ntmps5
    go_wp2_with fail
    (with_reducible refine (cz _ (by first | (with_reducible exact HL) | (with_reducible exact HL.alloc _) | (with_reducible exact (HL.alloc _).alloc _))).mono ?_)
    rintro e v1 ⟨rfl, hb⟩
    have hb' : Below w.heap.size w v1 := by first | (with_reducible exact hb) | (with_reducible exact below_in hb) | (with_reducible exact below_in (below_in hb))
    replace HL := HL.kept hb'
    have hB := hb'
    clear hb hb'
    go_wp2_with fail
    go_ret
    exact ⟨rfl, by have hz := hB.size; repeat' (first | (with_reducible exact Below.refl _ _) | (with_reducible assumption) | (with_reducible refine below_drewN ?_ _) | (with_reducible refine Below.drew ?_) | (with_reducible refine Below.setCell ?_ ?_ _) | (with_reducible refine Below.alloc ?_ ?_ _) | (simp; done) | (simp; omega) | omega)⟩
  · clear w3
    have c1 := fun w (L : Laid w) => hask_any a0 a1 a2 l0 u0 l1 u1 l2 u2 w L
    have c2 := rask_any a0 a1 a2 l0 u0 l1 u1 l2 u2
    have c3 := href_any l (by omega)
    have c4 := rref_any l (by omega)
    have hl2 : ¬ 2048 < (l.length : Int) := by omega
    clear hl
    generalize num (refL l) = r at *
    have ht := askH_typed a0 a1 a2 l0 u0 l1 u1 l2 u2
    by_cases hm : (askH a0 a1 a2).may = true
    · have f := Hd.may_fit hm
      obtain ⟨e1, e2⟩ := enc_yes hm
      obtain ⟨d1, d2, d3⟩ := dec_of_enc (askH a0 a1 a2) ht f []
      rw [List.append_nil] at d1 d2 d3
      have hl := (askH a0 a1 a2).enc_length
      have c5 := fun w (L : Laid w) => hdec_any (askH a0 a1 a2).enc (by omega) w L
      rw [d1, d2, d3] at c5
      rw [e1, e2] at c1 c2
      clear e1 e2 d1 d2 d3 hm f ht
      generalize (askH a0 a1 a2).enc = L at *
      unfold askH Hd.val at c5
      go_enter Tryd.func5, Tryd.ntmps5
      go_wp2_with fail
      (with_reducible refine (cz _ (by first | (with_reducible exact HL) | (with_reducible exact HL.alloc _) | (with_reducible exact (HL.alloc _).alloc _))).mono ?_)
      rintro e v1 ⟨rfl, hb⟩
      have hb' : Below w.heap.size w v1 := by first | (with_reducible exact hb) | (with_reducible exact below_in hb) | (with_reducible exact below_in (below_in hb))
      replace HL := HL.kept hb'
      have hB := hb'
      clear hb hb'
      go_wp2_with fail
      (with_reducible refine (c1 _ (by first | (with_reducible exact HL) | (with_reducible exact HL.alloc _) | (with_reducible exact (HL.alloc _).alloc _))).mono ?_)
      rintro e v2 ⟨rfl, hb⟩
      have hb' : Below v1.heap.size v1 v2 := by first | (with_reducible exact hb) | (with_reducible exact below_in hb) | (with_reducible exact below_in (below_in hb))
      replace HL := HL.kept hb'
      replace hB := hB.trans (hb'.mono hB.size)
      clear hb hb'
      go_wp2_with fail
      (with_reducible refine (c2 _).mono ?_)
      rintro e v3 ⟨rfl, hb⟩
      have hb' : Below v2.heap.size v2 v3 := by first | (with_reducible exact hb) | (with_reducible exact below_in hb) | (with_reducible exact below_in (below_in hb))
      replace HL := HL.kept hb'
      replace hB := hB.trans (hb'.mono hB.size)
      clear hb hb'
      go_wp2_with fail
      (with_reducible refine (c3 _).mono ?_)
      rintro e v4 ⟨rfl, hb⟩
      have hb' : Below v3.heap.size v3 v4 := by first | (with_reducible exact hb) | (with_reducible exact below_in hb) | (with_reducible exact below_in (below_in hb))
      replace HL := HL.kept hb'
      replace hB := hB.trans (hb'.mono hB.size)
      clear hb hb'
      go_wp2_with fail
      (with_reducible refine (c4 _).mono ?_)
      rintro e w' ⟨rfl, rfl⟩
      go_wp2_with fail
      (with_reducible refine (c5 _ (by first | (with_reducible exact HL) | (with_reducible exact HL.alloc _) | (with_reducible exact (HL.alloc _).alloc _))).mono ?_)
      rintro e v5 ⟨rfl, hb⟩
      have hb' : Below v4.heap.size v4 v5 := by first | (with_reducible exact hb) | (with_reducible exact below_in hb) | (with_reducible exact below_in (below_in hb))
      replace HL := HL.kept hb'
      replace hB := hB.trans (hb'.mono hB.size)
      clear hb hb'
      go_wp2_with fail
      go_ret
      exact ⟨rfl, by have hz := hB.size; repeat' (first | (with_reducible exact Below.refl _ _) | (with_reducible assumption) | (with_reducible refine below_drewN ?_ _) | (with_reducible refine Below.drew ?_) | (with_reducible refine Below.setCell ?_ ?_ _) | (with_reducible refine Below.alloc ?_ ?_ _) | (simp; done) | (simp; omega) | omega)⟩
    · have hm : (askH a0 a1 a2).may = false := by simpa using hm
      obtain ⟨e1, e2⟩ := enc_no hm
      rw [e1, e2] at c1 c2
      clear e1 e2 hm ht
      go_enter Tryd.func5, Tryd.ntmps5
      go_wp2_with fail
      (with_reducible refine (cz _ (by first | (with_reducible exact HL) | (with_reducible exact HL.alloc _) | (with_reducible exact (HL.alloc _).alloc _))).mono ?_)
      rintro e v1 ⟨rfl, hb⟩
      have hb' : Below w.heap.size w v1 := by first | (with_reducible exact hb) | (with_reducible exact below_in hb) | (with_reducible exact below_in (below_in hb))
      replace HL := HL.kept hb'
      have hB := hb'
      clear hb hb'
      go_wp2_with fail
      (with_reducible refine (c1 _ (by first | (with_reducible exact HL) | (with_reducible exact HL.alloc _) | (with_reducible exact (HL.alloc _).alloc _))).mono ?_)
      rintro e v2 ⟨rfl, hb⟩
      have hb' : Below v1.heap.size v1 v2 := by first | (with_reducible exact hb) | (with_reducible exact below_in hb) | (with_reducible exact below_in (below_in hb))
      replace HL := HL.kept hb'
      replace hB := hB.trans (hb'.mono hB.size)
      clear hb hb'
      go_wp2_with fail
      (with_reducible refine (c2 _).mono ?_)
      rintro e v3 ⟨rfl, hb⟩
      have hb' : Below v2.heap.size v2 v3 := by first | (with_reducible exact hb) | (with_reducible exact below_in hb) | (with_reducible exact below_in (below_in hb))
      replace HL := HL.kept hb'
      replace hB := hB.trans (hb'.mono hB.size)
      clear hb hb'
      go_wp2_with fail
      (with_reducible refine (c3 _).mono ?_)
      rintro e v4 ⟨rfl, hb⟩
      have hb' : Below v3.heap.size v3 v4 := by first | (with_reducible exact hb) | (with_reducible exact below_in hb) | (with_reducible exact below_in (below_in hb))
      replace HL := HL.kept hb'
      replace hB := hB.trans (hb'.mono hB.size)
      clear hb hb'
      go_wp2_with fail
      (with_reducible refine (c4 _).mono ?_)
      rintro e w' ⟨rfl, rfl⟩
      go_wp2_with fail
      go_ret
      exact ⟨rfl, by have hz := hB.size; repeat' (first | (with_reducible exact Below.refl _ _) | (with_reducible assumption) | (with_reducible refine below_drewN ?_ _) | (with_reducible refine Below.drew ?_) | (with_reducible refine Below.setCell ?_ ?_ _) | (with_reducible refine Below.alloc ?_ ?_ _) | (simp; done) | (simp; omega) | omega)⟩
set_option maxRecDepth 100000 in
theorem lifted (os : Os) (started : os.Started) (H : Type) (enc : TypeId × Value → H) :
    ReturnsInHanded {} Tryd.checked os 5 .any (fun w args => (Rows.headerAsksSpec.pre enc Tryd.prog Tryd.f5 [] false w args ∧ laidMetH Tryd.prog Rows.headerAsksRow.laid w) ∧ sizedMet enc Tryd.prog Tryd.f5 (OpenSpec.ofChange Rows.headerAsksSpec) false w args) (Rows.headerAsksSpec.post enc Tryd.prog Tryd.f5 false true false false) := by
  refine returnsInHanded_of_change_and (C := Tryd.checked) (X := fun w _ => laidMetH Tryd.prog Rows.headerAsksRow.laid w) (fun _ _ _ hh h => h.of_heap hh) own started (by kernel_rfl) Tryd.func5
    (ChangeSpec.witness_shaped (enc := enc) (C := Tryd.checked) (os := os) (X := fun w _ => laidMetH Tryd.prog Rows.headerAsksRow.laid w) false (World.doorLaid Tryd.prog 400 os) #[.int .i64 0, .int .i64 0, .int .u64 0, .string ByteArray.empty] 8 rfl (World.shaped_of_RefB (by kernel_rfl) (by kernel_rfl)) (by kernel_rfl) (by kernel_rfl) (by kernel_rfl) (door_met os _)) ?_
  intro W base args ds gs before hval0 hW _ _ hL _
  have hval : ∀ (j : Nat) t v, Tryd.f5.params[j]? = some t → args[j]? = some v → Value.okWide Tryd.prog W .any base t v := hval0
  have hW' := hW
  obtain ⟨p, q, hA0, hV, rfl, hfz, hnd⟩ := hW
  have hA : DataW.TrodAll enc Tryd.prog W 0 (fun _ => true) true Tryd.f5.params.toList args.toList ds p := hA0
  rw [Tryd.params5] at hA hval
  obtain ⟨v0, vs0, d0, ds0, p0, q0, hargs, rfl, rfl, h0, r0⟩ := trodAll_cons hA
  obtain ⟨v1, vs1, d1, ds1, p1, q1, rfl, rfl, rfl, h1, r1⟩ := trodAll_cons r0
  obtain ⟨v2, vs2, d2, ds2, p2, q2, rfl, rfl, rfl, h2, r2⟩ := trodAll_cons r1
  obtain ⟨v3, vs3, d3, ds3, p3, q3, rfl, rfl, rfl, h3, r3⟩ := trodAll_cons r2
  obtain ⟨rfl, rfl, rfl⟩ := trodAll_nil r3
  obtain rfl : args = #[v0, v1, v2, v3] := by cases args; simp_all
  obtain ⟨rfl, rfl⟩ := trodVars_none hV
  obtain ⟨a0, rfl, rfl, rfl, w0⟩ := open_int Tryd.underlying3 (hval 0 3 v0 rfl rfl) h0
  obtain ⟨a1, rfl, rfl, rfl, w1⟩ := open_int Tryd.underlying3 (hval 1 3 v1 rfl rfl) h1
  obtain ⟨a2, rfl, rfl, rfl, w2⟩ := open_int Tryd.underlying23 (hval 2 23 v2 rfl rfl) h2
  obtain ⟨a3, rfl, rfl, rfl, w3⟩ := open_string Tryd.underlying9 (hval 3 9 v3 rfl rfl) h3
  clear hA0 hval0
  refine (walk a0 a1 a2 a3 W w0 w1 w2 w3 (of_laid hL)).mono fun e W' ⟨he, bel⟩ => ?_
  subst he
  exact ⟨_, rfl, _, _, _, [], _, [], hW', trodAll_mk1 (shut_bool Tryd.underlying4 _), (trodAll_cons_mk (shut_int Tryd.underlying3 w0) (trodAll_cons_mk (shut_int Tryd.underlying3 w1) (trodAll_cons_mk (shut_int Tryd.underlying23 w2) (trodAll_cons_mk (shut_string Tryd.underlying9 w3) trodAll_mk0)))), rfl, bel.frame _, fun h => by cases h⟩

theorem over : Rows.headerAsksRow.holds Tryd.pinned (OpenSpec.ofChange Rows.headerAsksSpec) :=
  OpenClaim.holds_of_wide 5 Tryd.f5 rfl rfl rfl rfl rfl rfl rfl ⟨rfl, rfl, rfl, rfl, rfl⟩ rfl rfl rfl rfl rfl (by kernel_rfl) Tryd.func5 (by kernel_rfl)
    (of_decide_eq_true (by kernel_rfl)) (by unfold Func.isWrapper; first | (rw [if_pos (by decide +kernel)]; kernel_rfl) | (rw [if_neg (by decide +kernel)]; exact ⟨rfl, rfl⟩))
    (fun os started H enc _ => lifted os started H enc)

theorem proved : Rows.HeaderAsksCardSaid :=
  Claim7.holds_tied_plain_at .later [] [.data] true Rows.headerAsksCard.stood.harness false
    over (fun _ h => by cases h) (by kernel_rfl) (fun _ h => by cases h) headerAsks_row_tie rfl ⟨rfl, rfl⟩ (by kernel_rfl) rfl
    (fun f fn hf hfn => by
      obtain rfl : f = 5 := Option.some.inj ((show Tryd.prog.funcNamed "analemma/analemmalaw05.HeaderAsks" = some 5 by kernel_rfl).symm.trans hf) |>.symm
      obtain rfl : fn = Tryd.f5 := (Option.some.inj (Tryd.func5.symm.trans hfn)).symm
      exact ⟨by kernel_rfl, fun j t ht => by
        rw [Tryd.params5] at ht
        have hm : t ∈ [3, 3, 23, 9] := by simpa using Array.mem_of_getElem? ht
        have hall : ([3, 3, 23, 9].all fun u => !Tryd.prog.wantsStandIn u) = true := by kernel_rfl
        exact (show Tryd.prog.wantsStandIn t = false by simpa using List.all_eq_true.1 hall t hm)⟩)
    (by kernel_rfl)
end Go.Proofs.YthfgjhffcbehbaaDoor.HeaderAsks
