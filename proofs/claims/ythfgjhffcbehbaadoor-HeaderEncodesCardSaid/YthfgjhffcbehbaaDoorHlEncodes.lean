/- HeaderEncodes: for every header, its bytes are the ones that the document's own answer comes to, or its error; it comes back. Condition: the package variable header.bounds holds what the text of the program lays in it (the card ties it). -/
import Derived.Test.YthfgjhffcbehbaaDoorHdY
import Derived.Test.YthfgjhffcbehbaaDoorHdL
import Derived.WalkKit
import Derived.WalkSpells
import Derived.WalkLawsBesides
import Derived.Lib.Hide
import Derived.Handy
import Derived.ProofKit
import Derived.OpenShut
import Derived.ShutString
import Derived.ChangeOld
import Derived.Below
import Derived.Lib.QuietBelow
import Derived.BigQuiet
namespace Go.Proofs.YthfgjhffcbehbaaDoor.HeaderEncodes
open Go.Proofs.YthfgjhffcbehbaaDoor.W
open Go.ChangeShapes Go.WideShapes Go.ChangeAt Go.RowKit
open Go.ChangeMaps (open_string shut_string)
set_option linter.unusedVariables false
theorem own : ownKnob Tryd.prog.godebug = none := by kernel_rfl
theorem laidOut : laidOutB Tryd.prog = true := by kernel_rfl
open Go.Sort
set_option linter.unusedSimpArgs false
set_option maxHeartbeats 3200000 in
set_option maxRecDepth 20000 in
theorem walk (a0 : Hd) (w : World) (t : a0.Typed) (HL : Laid w) :
    Calls Tryd.prog 3 #[a0.val] w fun e w' => e = .returned (.bool true) ∧ Below w.heap.size w w' := by
  have c1 := fun w (L : Laid w) => henc_any a0 t w L
  have c2 := renc_any a0 t
  have c3 := fun w (L : Laid w) => hmay_any a0 w L
  have c4 := rmay_any a0
  have cz := fun w (L : Laid w) => hshown_any w L
  by_cases hm : a0.may = true
  · have f := Hd.may_fit hm
    obtain ⟨e1, e2⟩ := enc_yes hm
    obtain ⟨d1, d2, d3⟩ := dec_of_enc a0 t f []
    rw [List.append_nil] at d1 d2 d3
    have hl := a0.enc_length
    have c5 := fun w (L : Laid w) => hdec_any a0.enc (by omega) w L
    rw [d1, d2, d3] at c5
    rw [e1, e2] at c1 c2
    rw [hm] at c3 c4
    clear e1 e2 d1 d2 d3 hm f t
    generalize a0.enc = L at *
    unfold Hd.val at *
    go_enter Tryd.func3, Tryd.ntmps3
    go_wp2_with fail
    (with_reducible refine (c1 _ (by first | (with_reducible exact HL) | (with_reducible exact HL.alloc _) | (with_reducible exact (HL.alloc _).alloc _))).mono ?_)
    rintro e v1 ⟨rfl, hb⟩
    have H := (HdIn.made a0 w 25).kept hb
    have hb' : Below w.heap.size w v1 := by first | (with_reducible exact hb) | (with_reducible exact below_in hb) | (with_reducible exact below_in (below_in hb))
    replace HL := HL.kept hb'
    have hB := hb'
    clear hb hb'
    have ⟨k0_lt, k0_0, k0_1, k0_2, k0_3, k0_4, k0_5, k0_6, k0_7, k0_8, k0_9, k0_10, k0_11, k0_12⟩ := H
    go_wp2_with fail
    (with_reducible refine (c2 _).mono ?_)
    rintro e v2 ⟨rfl, hb⟩
    have hb' : Below v1.heap.size v1 v2 := by first | (with_reducible exact hb) | (with_reducible exact below_in hb) | (with_reducible exact below_in (below_in hb))
    replace H := H.kept hb'
    replace HL := HL.kept hb'
    replace hB := hB.trans (hb'.mono hB.size)
    clear hb hb'
    clear k0_0 k0_1 k0_2 k0_3 k0_4 k0_5 k0_6 k0_7 k0_8 k0_9 k0_10 k0_11 k0_12 k0_lt
    have ⟨k0_lt, k0_0, k0_1, k0_2, k0_3, k0_4, k0_5, k0_6, k0_7, k0_8, k0_9, k0_10, k0_11, k0_12⟩ := H
    go_wp2_with fail
    clear k0_0 k0_1 k0_2 k0_3 k0_4 k0_5 k0_6 k0_7 k0_8 k0_9 k0_10 k0_11 k0_12 k0_lt
    have k0 := cell_regrown H.c0
    have k1 := cell_regrown H.c1
    have k2 := cell_regrown H.c2
    have k3 := cell_regrown H.c3
    have k4 := cell_regrown H.c4
    have k5 := cell_regrown H.c5
    have k6 := cell_regrown H.c6
    have k7 := cell_regrown H.c7
    have k8 := cell_regrown H.c8
    have k9 := cell_regrown H.c9
    have k10 := cell_regrown H.c10
    have k11 := cell_regrown H.c11
    have k12 := cell_regrown H.c12
    have d0 := fun d os => Calls.regrown_of (c3 (grow (redrawn v2 d) os) (HL.kept (below_regrown v2 d os)))
    have d1 := fun d os => Calls.regrown_of (c4 (grow (redrawn v2 d) os))
    have d2 := fun d os => Calls.regrown_of (cz (grow (redrawn v2 d) os) (HL.kept (below_regrown v2 d os)))
    refine wp_region_quiet_below (by kernel_rfl) (by kernel_rfl) ?_
    repeat (quiet_step (first | (with_reducible exact d0 _ _) | (with_reducible exact d1 _ _) | (with_reducible exact d2 _ _)))
    refine wpQuiet_nil ?_
    intro v3 hb
    replace hb := quiet_world hb
    clear d0 d1 d2 k0 k1 k2 k3 k4 k5 k6 k7 k8 k9 k10 k11 k12
    replace H := H.kept hb
    replace HL := HL.kept hb
    replace hB := hB.trans (hb.mono hB.size)
    clear hb
    have ⟨k0_lt, k0_0, k0_1, k0_2, k0_3, k0_4, k0_5, k0_6, k0_7, k0_8, k0_9, k0_10, k0_11, k0_12⟩ := H
    go_wp2_with fail
    (with_reducible refine (c5 _ (by first | (with_reducible exact HL) | (with_reducible exact HL.alloc _) | (with_reducible exact (HL.alloc _).alloc _))).mono ?_)
    rintro e v4 ⟨rfl, hb⟩
    have hb' : Below v3.heap.size v3 v4 := by first | (with_reducible exact hb) | (with_reducible exact below_in hb) | (with_reducible exact below_in (below_in hb))
    replace H := H.kept hb'
    replace HL := HL.kept hb'
    replace hB := hB.trans (hb'.mono hB.size)
    clear hb hb'
    clear k0_0 k0_1 k0_2 k0_3 k0_4 k0_5 k0_6 k0_7 k0_8 k0_9 k0_10 k0_11 k0_12 k0_lt
    have ⟨k0_lt, k0_0, k0_1, k0_2, k0_3, k0_4, k0_5, k0_6, k0_7, k0_8, k0_9, k0_10, k0_11, k0_12⟩ := H
    go_wp2_with fail
    go_ret
    exact ⟨rfl, by have hz := hB.size; repeat' (first | (with_reducible exact Below.refl _ _) | (with_reducible assumption) | (with_reducible refine below_drewN ?_ _) | (with_reducible refine Below.drew ?_) | (with_reducible refine Below.setCell ?_ ?_ _) | (with_reducible refine Below.alloc ?_ ?_ _) | (simp; done) | (simp; omega) | omega)⟩
  · have hm : a0.may = false := by simpa using hm
    obtain ⟨e1, e2⟩ := enc_no hm
    rw [e1, e2] at c1 c2
    rw [hm] at c3 c4
    clear e1 e2 hm t
    unfold Hd.val at *
    go_enter Tryd.func3, Tryd.ntmps3
    go_wp2_with fail
    (with_reducible refine (c1 _ (by first | (with_reducible exact HL) | (with_reducible exact HL.alloc _) | (with_reducible exact (HL.alloc _).alloc _))).mono ?_)
    rintro e v1 ⟨rfl, hb⟩
    have H := (HdIn.made a0 w 25).kept hb
    have hb' : Below w.heap.size w v1 := by first | (with_reducible exact hb) | (with_reducible exact below_in hb) | (with_reducible exact below_in (below_in hb))
    replace HL := HL.kept hb'
    have hB := hb'
    clear hb hb'
    have ⟨k0_lt, k0_0, k0_1, k0_2, k0_3, k0_4, k0_5, k0_6, k0_7, k0_8, k0_9, k0_10, k0_11, k0_12⟩ := H
    go_wp2_with fail
    (with_reducible refine (c2 _).mono ?_)
    rintro e v2 ⟨rfl, hb⟩
    have hb' : Below v1.heap.size v1 v2 := by first | (with_reducible exact hb) | (with_reducible exact below_in hb) | (with_reducible exact below_in (below_in hb))
    replace H := H.kept hb'
    replace HL := HL.kept hb'
    replace hB := hB.trans (hb'.mono hB.size)
    clear hb hb'
    clear k0_0 k0_1 k0_2 k0_3 k0_4 k0_5 k0_6 k0_7 k0_8 k0_9 k0_10 k0_11 k0_12 k0_lt
    have ⟨k0_lt, k0_0, k0_1, k0_2, k0_3, k0_4, k0_5, k0_6, k0_7, k0_8, k0_9, k0_10, k0_11, k0_12⟩ := H
    go_wp2_with fail
    clear k0_0 k0_1 k0_2 k0_3 k0_4 k0_5 k0_6 k0_7 k0_8 k0_9 k0_10 k0_11 k0_12 k0_lt
    have k0 := cell_regrown H.c0
    have k1 := cell_regrown H.c1
    have k2 := cell_regrown H.c2
    have k3 := cell_regrown H.c3
    have k4 := cell_regrown H.c4
    have k5 := cell_regrown H.c5
    have k6 := cell_regrown H.c6
    have k7 := cell_regrown H.c7
    have k8 := cell_regrown H.c8
    have k9 := cell_regrown H.c9
    have k10 := cell_regrown H.c10
    have k11 := cell_regrown H.c11
    have k12 := cell_regrown H.c12
    have d0 := fun d os => Calls.regrown_of (c3 (grow (redrawn v2 d) os) (HL.kept (below_regrown v2 d os)))
    have d1 := fun d os => Calls.regrown_of (c4 (grow (redrawn v2 d) os))
    have d2 := fun d os => Calls.regrown_of (cz (grow (redrawn v2 d) os) (HL.kept (below_regrown v2 d os)))
    refine wp_region_quiet_below (by kernel_rfl) (by kernel_rfl) ?_
    repeat (quiet_step (first | (with_reducible exact d0 _ _) | (with_reducible exact d1 _ _) | (with_reducible exact d2 _ _)))
    refine wpQuiet_nil ?_
    intro v3 hb
    replace hb := quiet_world hb
    clear d0 d1 d2 k0 k1 k2 k3 k4 k5 k6 k7 k8 k9 k10 k11 k12
    replace H := H.kept hb
    replace HL := HL.kept hb
    replace hB := hB.trans (hb.mono hB.size)
    clear hb
    have ⟨k0_lt, k0_0, k0_1, k0_2, k0_3, k0_4, k0_5, k0_6, k0_7, k0_8, k0_9, k0_10, k0_11, k0_12⟩ := H
    go_wp2_with fail
    go_ret
    exact ⟨rfl, by have hz := hB.size; repeat' (first | (with_reducible exact Below.refl _ _) | (with_reducible assumption) | (with_reducible refine below_drewN ?_ _) | (with_reducible refine Below.drew ?_) | (with_reducible refine Below.setCell ?_ ?_ _) | (with_reducible refine Below.alloc ?_ ?_ _) | (simp; done) | (simp; omega) | omega)⟩
set_option maxRecDepth 100000 in
theorem lifted (os : Os) (started : os.Started) (H : Type) (enc : TypeId × Value → H) :
    ReturnsInHanded {} Tryd.checked os 3 .any (fun w args => (Rows.headerEncodesSpec.pre enc Tryd.prog Tryd.f3 [] false w args ∧ laidMetH Tryd.prog Rows.headerEncodesRow.laid w) ∧ sizedMet enc Tryd.prog Tryd.f3 (OpenSpec.ofChange Rows.headerEncodesSpec) false w args) (Rows.headerEncodesSpec.post enc Tryd.prog Tryd.f3 false true false false) := by
  refine returnsInHanded_of_change_and (C := Tryd.checked) (X := fun w _ => laidMetH Tryd.prog Rows.headerEncodesRow.laid w) (fun _ _ _ hh h => h.of_heap hh) own started (by kernel_rfl) Tryd.func3
    (ChangeSpec.witness_shaped (enc := enc) (C := Tryd.checked) (os := os) (X := fun w _ => laidMetH Tryd.prog Rows.headerEncodesRow.laid w) false (World.doorLaid Tryd.prog 400 os) #[.agg #[.int .i64 0, .int .i64 0, .int .i64 0, .int .i64 0, .int .i64 0, .int .i64 0, .int .u32 0, .int .u32 0, .int .u32 0, .int .u64 0, .int .u64 0, .int .u64 0, .int .u64 0]] 8 rfl (World.shaped_of_RefB (by kernel_rfl) (by kernel_rfl)) (by kernel_rfl) (by kernel_rfl) (by kernel_rfl) (door_met os _)) ?_
  intro W base args ds gs before hval0 hW _ _ hL _
  have hval : ∀ (j : Nat) t v, Tryd.f3.params[j]? = some t → args[j]? = some v → Value.okWide Tryd.prog W .any base t v := hval0
  have hW' := hW
  obtain ⟨p, q, hA0, hV, rfl, hfz, hnd⟩ := hW
  have hA : DataW.TrodAll enc Tryd.prog W 0 (fun _ => true) true Tryd.f3.params.toList args.toList ds p := hA0
  rw [Tryd.params3] at hA hval
  obtain ⟨v0, vs0, d0, ds0, p0, q0, hargs, rfl, rfl, h0, r0⟩ := trodAll_cons hA
  obtain ⟨rfl, rfl, rfl⟩ := trodAll_nil r0
  obtain rfl : args = #[v0] := by cases args; simp_all
  obtain ⟨rfl, rfl⟩ := trodVars_none hV
  have k0 := h0
  have lt0 : ∀ x ∈ p0, x.block < W.heap.size := by obtain ⟨m, hm⟩ := k0; exact DataW.trod_lt m _ _ _ hm
  obtain ⟨a0, rfl, w0⟩ := open_hdr (hval 0 25 v0 rfl rfl) h0
  clear hA0 hval0
  refine (walk a0 W w0 (of_laid hL)).mono fun e W' ⟨he, bel⟩ => ?_
  subst he
  exact ⟨_, rfl, _, _, _, [], _, [], hW', trodAll_mk1 (shut_bool Tryd.underlying4 _), (trodAll_cons_mk (Below.trod laidOut (by kernel_rfl) (of_decide_eq_true (by kernel_rfl)) k0 bel lt0) trodAll_mk0), rfl, bel.frame _, fun h => by cases h⟩

theorem over : Rows.headerEncodesRow.holds Tryd.pinned (OpenSpec.ofChange Rows.headerEncodesSpec) :=
  OpenClaim.holds_of_wide 3 Tryd.f3 rfl rfl rfl rfl rfl rfl rfl ⟨rfl, rfl, rfl, rfl, rfl⟩ rfl rfl rfl rfl rfl (by kernel_rfl) Tryd.func3 (by kernel_rfl)
    (of_decide_eq_true (by kernel_rfl)) (by unfold Func.isWrapper; first | (rw [if_pos (by decide +kernel)]; kernel_rfl) | (rw [if_neg (by decide +kernel)]; exact ⟨rfl, rfl⟩))
    (fun os started H enc _ => lifted os started H enc)

theorem proved : Rows.HeaderEncodesCardSaid :=
  Claim7.holds_tied_plain_at .later [] [.data] true Rows.headerEncodesCard.stood.harness false
    over (fun _ h => by cases h) (by kernel_rfl) (fun _ h => by cases h) headerEncodes_row_tie rfl ⟨rfl, rfl⟩ (by kernel_rfl) rfl
    (fun f fn hf hfn => by
      obtain rfl : f = 3 := Option.some.inj ((show Tryd.prog.funcNamed "analemma/analemmalaw05.HeaderEncodes" = some 3 by kernel_rfl).symm.trans hf) |>.symm
      obtain rfl : fn = Tryd.f3 := (Option.some.inj (Tryd.func3.symm.trans hfn)).symm
      exact ⟨by kernel_rfl, fun j t ht => by
        rw [Tryd.params3] at ht
        have hm : t ∈ [25] := by simpa using Array.mem_of_getElem? ht
        have hall : ([25].all fun u => !Tryd.prog.wantsStandIn u) = true := by kernel_rfl
        exact (show Tryd.prog.wantsStandIn t = false by simpa using List.all_eq_true.1 hall t hm)⟩)
    (by kernel_rfl)
end Go.Proofs.YthfgjhffcbehbaaDoor.HeaderEncodes
