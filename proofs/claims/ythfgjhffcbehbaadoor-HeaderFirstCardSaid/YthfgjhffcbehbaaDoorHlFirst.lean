/- HeaderFirst: for every header and every text of at most 1024 bytes, the first byte of the header's bytes is its leap, its version and its mode; what is behind them is handed on as it is; fewer bytes are none. (A longer text is let go by the statement itself.) Condition: the package variable header.bounds holds what the text of the program lays in it (the card ties it). -/
import Derived.Test.YthfgjhffcbehbaaDoorHdY
import Derived.Test.YthfgjhffcbehbaaDoorHdL
import Derived.WalkKit
import Derived.WalkSpells
import Derived.WalkLawsBesides
import Derived.Lib.Hide
import Derived.Handy
import Derived.ProofKit
import Derived.OpenShut
import Derived.ShutString
import Derived.ChangeOld
import Derived.Below
import Derived.Lib.QuietBelow
import Derived.BigQuiet
namespace Go.Proofs.YthfgjhffcbehbaaDoor.HeaderFirst
open Go.Proofs.YthfgjhffcbehbaaDoor.W
open Go.ChangeShapes Go.WideShapes Go.ChangeAt Go.RowKit
open Go.ChangeMaps (open_string shut_string)
set_option linter.unusedVariables false
theorem own : ownKnob Tryd.prog.godebug = none := by kernel_rfl
theorem laidOut : laidOutB Tryd.prog = true := by kernel_rfl
open Go.Sort
set_option linter.unusedSimpArgs false
theorem enc_first (h : Hd) (f : h.Fit) : byteAt h.enc 0 = 64 * h.leap + 8 * h.ver + h.mode ∧ byteAt h.enc 1 = h.str := by
  have f1 := f.leap
  have f2 := f.ver
  have f3 := f.mode
  have f4 := f.str
  unfold Hd.enc
  rw [one_be _ (by omega) (by omega), one_be _ (by omega) (by omega)]
  refine ⟨?_, ?_⟩
  · simp [byteAt]
    exact b8_nat _ (by omega) (by omega)
  · simp [byteAt]
    exact b8_nat _ (by omega) (by omega)
theorem dec_short (l : List UInt8) (h : l.length < 48) : decE l = 50 ∧ decV l = Hd.zero ∧ decR l = [] := by
  have e : decE l = 50 := by unfold decE; rw [if_pos h]
  refine ⟨e, ?_, ?_⟩
  · unfold decV; rw [if_neg (by omega)]
  · unfold decR; rw [if_neg (by omega)]
set_option maxHeartbeats 3200000 in
set_option maxRecDepth 20000 in
theorem walk (a0 : Hd) (a1 : ByteArray) (w : World) (t : a0.Typed) (w1 : a1.size ≤ maxLen) (HL : Laid w) :
    Calls Tryd.prog 7 #[a0.val, .string a1] w fun e w' => e = .returned (.bool true) ∧ Below w.heap.size w w' := by
  obtain ⟨l, rfl⟩ : ∃ l, a1 = bs l := ⟨a1.data.toList, (bs_data a1).symm⟩
  have cz := fun w (L : Laid w) => hshown_any w L
  clear w1
  by_cases hl : 1024 < l.length
  · unfold Hd.val at *
    go_enter Tryd.func7, Tryd.ntmps7
    go_wp2_with fail
    (with_reducible refine (cz _ (by first | (with_reducible exact HL) | (with_reducible exact HL.alloc _) | (with_reducible exact (HL.alloc _).alloc _))).mono ?_)
    rintro e v1 ⟨rfl, hb⟩
    have H := (HdIn.made a0 w 25).kept hb
    have hb' : Below w.heap.size w v1 := by first | (with_reducible exact hb) | (with_reducible exact below_in hb) | (with_reducible exact below_in (below_in hb))
    replace HL := HL.kept hb'
    have hB := hb'
    clear hb hb'
    have ⟨k0_lt, k0_0, k0_1, k0_2, k0_3, k0_4, k0_5, k0_6, k0_7, k0_8, k0_9, k0_10, k0_11, k0_12⟩ := H
    go_wp2_with fail
    go_ret
    exact ⟨rfl, by have hz := hB.size; repeat' (first | (with_reducible exact Below.refl _ _) | (with_reducible assumption) | (with_reducible refine below_drewN ?_ _) | (with_reducible refine Below.drew ?_) | (with_reducible refine Below.setCell ?_ ?_ _) | (with_reducible refine Below.alloc ?_ ?_ _) | (simp; done) | (simp; omega) | omega)⟩
  · have c1 := fun w (L : Laid w) => henc_any a0 t w L
    have c2 := rmay_any a0
    have hl2 : ¬ 1024 < (l.length : Int) := by omega
    by_cases hm : a0.may = true
    · have f := Hd.may_fit hm
      obtain ⟨e1, e2⟩ := enc_yes hm
      obtain ⟨d1, d2, d3⟩ := dec_of_enc a0 t f l
      have hL := a0.enc_length
      obtain ⟨b0, b1⟩ := enc_first a0 f
      have c3 := fun w (L : Laid w) => hdec_any (a0.enc ++ l) (by rw [List.length_append]; omega) w L
      rw [d1, d2, d3] at c3
      obtain ⟨m, hm2⟩ : ∃ m : Nat, l.length % 48 = m := ⟨_, rfl⟩
      have m48 : m < 48 := by omega
      have c4 := fun w (L : Laid w) => hdec_any (cut a0.enc 0 m) (by rw [cut_len]; omega) w L
      obtain ⟨g1, g2, g3⟩ := dec_short (cut a0.enc 0 m) (by rw [cut_len]; omega)
      rw [g1, g2, g3] at c4
      have hs : ∀ w, (Instr.slice 9 (.string (bs a0.enc)) none (some (.int .i64 m)) none).run Tryd.prog w = .ok (.string (bs (cut a0.enc 0 m))) w := slice_to a0.enc m (by omega)
      rw [e1, e2] at c1
      obtain ⟨f1, f2, f3, f4, f5, f6⟩ := f
      have em : (l.length : Int).tmod 48 = m := by
        rw [Int.tmod_eq_emod_of_nonneg (by omega)]
        omega
      have em2 : (l.length : Int) % 48 = m := by omega
      have i0 : ∀ w, (Instr.index 9 (.string (bs a0.enc)) (.int .i64 0)).run Tryd.prog w = .ok (.int .u8 (byteAt a0.enc 0)) w := index_at a0.enc 0 (by omega)
      have i1 : ∀ w, (Instr.index 9 (.string (bs a0.enc)) (.int .i64 1)).run Tryd.prog w = .ok (.int .u8 (byteAt a0.enc 1)) w := index_at a0.enc 1 (by omega)
      rw [b0] at i0
      rw [b1] at i1
      have w1a : IntKind.i64.wrap (64 * a0.leap) = 64 * a0.leap := by rw [IntKind.wrap_i64]; omega
      have w1b : IntKind.i64.wrap (8 * a0.ver) = 8 * a0.ver := by rw [IntKind.wrap_i64]; omega
      have w1c : IntKind.i64.wrap (64 * a0.leap + 8 * a0.ver) = 64 * a0.leap + 8 * a0.ver := by rw [IntKind.wrap_i64]; omega
      have w1d : IntKind.i64.wrap (64 * a0.leap + 8 * a0.ver + a0.mode) = 64 * a0.leap + 8 * a0.ver + a0.mode := by rw [IntKind.wrap_i64]; omega
      have w1f : IntKind.i64.wrap a0.str = a0.str := by rw [IntKind.wrap_i64]; omega
      clear e1 e2 d1 d2 d3 hm g1 g2 g3 t hm2 hl b0 b1
      obtain ⟨S, hS⟩ : ∃ S, bs (cut a0.enc 0 m) = S := ⟨_, rfl⟩
      rw [hS] at hs c4
      have hca : bs a0.enc ++ bs l = bs (a0.enc ++ l) := bs_append _ _
      clear hS
      generalize a0.enc = L at *
      unfold Hd.val at *
      go_enter Tryd.func7, Tryd.ntmps7
      go_wp2_with fail
      (with_reducible refine (cz _ (by first | (with_reducible exact HL) | (with_reducible exact HL.alloc _) | (with_reducible exact (HL.alloc _).alloc _))).mono ?_)
      rintro e v1 ⟨rfl, hb⟩
      have H := (HdIn.made a0 w 25).kept hb
      have hb' : Below w.heap.size w v1 := by first | (with_reducible exact hb) | (with_reducible exact below_in hb) | (with_reducible exact below_in (below_in hb))
      replace HL := HL.kept hb'
      have hB := hb'
      clear hb hb'
      have ⟨k0_lt, k0_0, k0_1, k0_2, k0_3, k0_4, k0_5, k0_6, k0_7, k0_8, k0_9, k0_10, k0_11, k0_12⟩ := H
      go_wp2_with fail
      (with_reducible refine (c1 _ (by first | (with_reducible exact HL) | (with_reducible exact HL.alloc _) | (with_reducible exact (HL.alloc _).alloc _))).mono ?_)
      rintro e v2 ⟨rfl, hb⟩
      have hb' : Below v1.heap.size v1 v2 := by first | (with_reducible exact hb) | (with_reducible exact below_in hb) | (with_reducible exact below_in (below_in hb))
      replace H := H.kept hb'
      replace HL := HL.kept hb'
      replace hB := hB.trans (hb'.mono hB.size)
      clear hb hb'
      clear k0_0 k0_1 k0_2 k0_3 k0_4 k0_5 k0_6 k0_7 k0_8 k0_9 k0_10 k0_11 k0_12 k0_lt
      have ⟨k0_lt, k0_0, k0_1, k0_2, k0_3, k0_4, k0_5, k0_6, k0_7, k0_8, k0_9, k0_10, k0_11, k0_12⟩ := H
      go_wp2_with fail
      (with_reducible refine (c3 _ (by first | (with_reducible exact HL) | (with_reducible exact HL.alloc _) | (with_reducible exact (HL.alloc _).alloc _))).mono ?_)
      rintro e v3 ⟨rfl, hb⟩
      have hb' : Below v2.heap.size v2 v3 := by first | (with_reducible exact hb) | (with_reducible exact below_in hb) | (with_reducible exact below_in (below_in hb))
      replace H := H.kept hb'
      replace HL := HL.kept hb'
      replace hB := hB.trans (hb'.mono hB.size)
      clear hb hb'
      clear k0_0 k0_1 k0_2 k0_3 k0_4 k0_5 k0_6 k0_7 k0_8 k0_9 k0_10 k0_11 k0_12 k0_lt
      have ⟨k0_lt, k0_0, k0_1, k0_2, k0_3, k0_4, k0_5, k0_6, k0_7, k0_8, k0_9, k0_10, k0_11, k0_12⟩ := H
      go_wp2_with fail
      (with_reducible refine (c4 _ (by first | (with_reducible exact HL) | (with_reducible exact HL.alloc _) | (with_reducible exact (HL.alloc _).alloc _))).mono ?_)
      rintro e v4 ⟨rfl, hb⟩
      have H2 := (HdIn.made a0 v3 25).kept hb
      have hb' : Below v3.heap.size v3 v4 := by first | (with_reducible exact hb) | (with_reducible exact below_in hb) | (with_reducible exact below_in (below_in hb))
      replace H := H.kept hb'
      replace HL := HL.kept hb'
      replace hB := hB.trans (hb'.mono hB.size)
      clear hb hb'
      clear k0_0 k0_1 k0_2 k0_3 k0_4 k0_5 k0_6 k0_7 k0_8 k0_9 k0_10 k0_11 k0_12 k0_lt
      have ⟨k0_lt, k0_0, k0_1, k0_2, k0_3, k0_4, k0_5, k0_6, k0_7, k0_8, k0_9, k0_10, k0_11, k0_12⟩ := H
      have ⟨k1_lt, k1_0, k1_1, k1_2, k1_3, k1_4, k1_5, k1_6, k1_7, k1_8, k1_9, k1_10, k1_11, k1_12⟩ := H2
      go_wp2_with fail
      go_quiet (fail)
      go_wp2_with fail
      go_ret
      exact ⟨rfl, by have hz := hB.size; repeat' (first | (with_reducible exact Below.refl _ _) | (with_reducible assumption) | (with_reducible refine below_drewN ?_ _) | (with_reducible refine Below.drew ?_) | (with_reducible refine Below.setCell ?_ ?_ _) | (with_reducible refine Below.alloc ?_ ?_ _) | (simp; done) | (simp; omega) | omega)⟩
    · have hm : a0.may = false := by simpa using hm
      obtain ⟨e1, e2⟩ := enc_no hm
      rw [e1, e2] at c1
      rw [hm] at c2
      clear e1 e2 hm t hl
      unfold Hd.val at *
      go_enter Tryd.func7, Tryd.ntmps7
      go_wp2_with fail
      (with_reducible refine (cz _ (by first | (with_reducible exact HL) | (with_reducible exact HL.alloc _) | (with_reducible exact (HL.alloc _).alloc _))).mono ?_)
      rintro e v1 ⟨rfl, hb⟩
      have H := (HdIn.made a0 w 25).kept hb
      have hb' : Below w.heap.size w v1 := by first | (with_reducible exact hb) | (with_reducible exact below_in hb) | (with_reducible exact below_in (below_in hb))
      replace HL := HL.kept hb'
      have hB := hb'
      clear hb hb'
      have ⟨k0_lt, k0_0, k0_1, k0_2, k0_3, k0_4, k0_5, k0_6, k0_7, k0_8, k0_9, k0_10, k0_11, k0_12⟩ := H
      go_wp2_with fail
      (with_reducible refine (c1 _ (by first | (with_reducible exact HL) | (with_reducible exact HL.alloc _) | (with_reducible exact (HL.alloc _).alloc _))).mono ?_)
      rintro e v2 ⟨rfl, hb⟩
      have hb' : Below v1.heap.size v1 v2 := by first | (with_reducible exact hb) | (with_reducible exact below_in hb) | (with_reducible exact below_in (below_in hb))
      replace H := H.kept hb'
      replace HL := HL.kept hb'
      replace hB := hB.trans (hb'.mono hB.size)
      clear hb hb'
      clear k0_0 k0_1 k0_2 k0_3 k0_4 k0_5 k0_6 k0_7 k0_8 k0_9 k0_10 k0_11 k0_12 k0_lt
      have ⟨k0_lt, k0_0, k0_1, k0_2, k0_3, k0_4, k0_5, k0_6, k0_7, k0_8, k0_9, k0_10, k0_11, k0_12⟩ := H
      go_wp2_with fail
      (with_reducible refine (c2 _).mono ?_)
      rintro e v3 ⟨rfl, hb⟩
      have hb' : Below v2.heap.size v2 v3 := by first | (with_reducible exact hb) | (with_reducible exact below_in hb) | (with_reducible exact below_in (below_in hb))
      replace H := H.kept hb'
      replace HL := HL.kept hb'
      replace hB := hB.trans (hb'.mono hB.size)
      clear hb hb'
      clear k0_0 k0_1 k0_2 k0_3 k0_4 k0_5 k0_6 k0_7 k0_8 k0_9 k0_10 k0_11 k0_12 k0_lt
      have ⟨k0_lt, k0_0, k0_1, k0_2, k0_3, k0_4, k0_5, k0_6, k0_7, k0_8, k0_9, k0_10, k0_11, k0_12⟩ := H
      go_wp2_with fail
      go_ret
      exact ⟨rfl, by have hz := hB.size; repeat' (first | (with_reducible exact Below.refl _ _) | (with_reducible assumption) | (with_reducible refine below_drewN ?_ _) | (with_reducible refine Below.drew ?_) | (with_reducible refine Below.setCell ?_ ?_ _) | (with_reducible refine Below.alloc ?_ ?_ _) | (simp; done) | (simp; omega) | omega)⟩
set_option maxRecDepth 100000 in
theorem lifted (os : Os) (started : os.Started) (H : Type) (enc : TypeId × Value → H) :
    ReturnsInHanded {} Tryd.checked os 7 .any (fun w args => (Rows.headerFirstSpec.pre enc Tryd.prog Tryd.f7 [] false w args ∧ laidMetH Tryd.prog Rows.headerFirstRow.laid w) ∧ sizedMet enc Tryd.prog Tryd.f7 (OpenSpec.ofChange Rows.headerFirstSpec) false w args) (Rows.headerFirstSpec.post enc Tryd.prog Tryd.f7 false true false false) := by
  refine returnsInHanded_of_change_and (C := Tryd.checked) (X := fun w _ => laidMetH Tryd.prog Rows.headerFirstRow.laid w) (fun _ _ _ hh h => h.of_heap hh) own started (by kernel_rfl) Tryd.func7
    (ChangeSpec.witness_shaped (enc := enc) (C := Tryd.checked) (os := os) (X := fun w _ => laidMetH Tryd.prog Rows.headerFirstRow.laid w) false (World.doorLaid Tryd.prog 400 os) #[.agg #[.int .i64 0, .int .i64 0, .int .i64 0, .int .i64 0, .int .i64 0, .int .i64 0, .int .u32 0, .int .u32 0, .int .u32 0, .int .u64 0, .int .u64 0, .int .u64 0, .int .u64 0], .string ByteArray.empty] 8 rfl (World.shaped_of_RefB (by kernel_rfl) (by kernel_rfl)) (by kernel_rfl) (by kernel_rfl) (by kernel_rfl) (door_met os _)) ?_
  intro W base args ds gs before hval0 hW _ _ hL _
  have hval : ∀ (j : Nat) t v, Tryd.f7.params[j]? = some t → args[j]? = some v → Value.okWide Tryd.prog W .any base t v := hval0
  have hW' := hW
  obtain ⟨p, q, hA0, hV, rfl, hfz, hnd⟩ := hW
  have hA : DataW.TrodAll enc Tryd.prog W 0 (fun _ => true) true Tryd.f7.params.toList args.toList ds p := hA0
  rw [Tryd.params7] at hA hval
  obtain ⟨v0, vs0, d0, ds0, p0, q0, hargs, rfl, rfl, h0, r0⟩ := trodAll_cons hA
  obtain ⟨v1, vs1, d1, ds1, p1, q1, rfl, rfl, rfl, h1, r1⟩ := trodAll_cons r0
  obtain ⟨rfl, rfl, rfl⟩ := trodAll_nil r1
  obtain rfl : args = #[v0, v1] := by cases args; simp_all
  obtain ⟨rfl, rfl⟩ := trodVars_none hV
  have k0 := h0
  have lt0 : ∀ x ∈ p0, x.block < W.heap.size := by obtain ⟨m, hm⟩ := k0; exact DataW.trod_lt m _ _ _ hm
  obtain ⟨a0, rfl, w0⟩ := open_hdr (hval 0 25 v0 rfl rfl) h0
  obtain ⟨a1, rfl, rfl, rfl, w1⟩ := open_string Tryd.underlying9 (hval 1 9 v1 rfl rfl) h1
  clear hA0 hval0
  refine (walk a0 a1 W w0 w1 (of_laid hL)).mono fun e W' ⟨he, bel⟩ => ?_
  subst he
  exact ⟨_, rfl, _, _, _, [], _, [], hW', trodAll_mk1 (shut_bool Tryd.underlying4 _), (trodAll_cons_mk (Below.trod laidOut (by kernel_rfl) (of_decide_eq_true (by kernel_rfl)) k0 bel lt0) (trodAll_cons_mk (shut_string Tryd.underlying9 w1) trodAll_mk0)), rfl, bel.frame _, fun h => by cases h⟩

theorem over : Rows.headerFirstRow.holds Tryd.pinned (OpenSpec.ofChange Rows.headerFirstSpec) :=
  OpenClaim.holds_of_wide 7 Tryd.f7 rfl rfl rfl rfl rfl rfl rfl ⟨rfl, rfl, rfl, rfl, rfl⟩ rfl rfl rfl rfl rfl (by kernel_rfl) Tryd.func7 (by kernel_rfl)
    (of_decide_eq_true (by kernel_rfl)) (by unfold Func.isWrapper; first | (rw [if_pos (by decide +kernel)]; kernel_rfl) | (rw [if_neg (by decide +kernel)]; exact ⟨rfl, rfl⟩))
    (fun os started H enc _ => lifted os started H enc)

theorem proved : Rows.HeaderFirstCardSaid :=
  Claim7.holds_tied_plain_at .later [] [.data] true Rows.headerFirstCard.stood.harness false
    over (fun _ h => by cases h) (by kernel_rfl) (fun _ h => by cases h) headerFirst_row_tie rfl ⟨rfl, rfl⟩ (by kernel_rfl) rfl
    (fun f fn hf hfn => by
      obtain rfl : f = 7 := Option.some.inj ((show Tryd.prog.funcNamed "analemma/analemmalaw05.HeaderFirst" = some 7 by kernel_rfl).symm.trans hf) |>.symm
      obtain rfl : fn = Tryd.f7 := (Option.some.inj (Tryd.func7.symm.trans hfn)).symm
      exact ⟨by kernel_rfl, fun j t ht => by
        rw [Tryd.params7] at ht
        have hm : t ∈ [25, 9] := by simpa using Array.mem_of_getElem? ht
        have hall : ([25, 9].all fun u => !Tryd.prog.wantsStandIn u) = true := by kernel_rfl
        exact (show Tryd.prog.wantsStandIn t = false by simpa using List.all_eq_true.1 hall t hm)⟩)
    (by kernel_rfl)
end Go.Proofs.YthfgjhffcbehbaaDoor.HeaderFirst
