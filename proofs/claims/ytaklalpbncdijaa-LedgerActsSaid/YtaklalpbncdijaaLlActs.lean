/- LedgerActs: for every list of at most 200 calls, whatever a clock is corrected by, whenever, it answers, reads, and has as entries, what the document's own answer comes to. (A longer one is let go by the statement itself.) No condition. -/
import Derived.Test.YtaklalpbncdijaaLgG
import Derived.Test.YtaklalpbncdijaaLgZ
import Derived.Test.YtaklalpbncdijaaFixZ
import Derived.WalkKit
import Derived.WalkSpells
import Derived.WalkLawsBesides
import Derived.Lib.Hide
import Derived.Handy
import Derived.ProofKit
import Derived.OpenShut
import Derived.ShutString
import Derived.ChangeOld
import Derived.Below
import Derived.Deep.RegionHeld3
namespace Go.Proofs.Ytaklalpbncdijaa.LedgerActs
open Go.Proofs.Ytaklalpbncdijaa.W
open Go.ChangeShapes Go.WideShapes Go.ChangeAt Go.RowKit
open Go.ChangeMaps (open_string shut_string)
set_option linter.unusedVariables false
theorem own : ownKnob Try.prog.godebug = none := by kernel_rfl
theorem laidOut : laidOutB Try.prog = true := by kernel_rfl
open Go.Sort
set_option linter.unusedSimpArgs false
theorem act_at {w0 w : World} {b : Nat} {off : Nat} {k : Nat} {a : Ac} (hB : Below w0.heap.size w0 w) (hb : b < w0.heap.size) (hc : ∀ j u, (acE a)[j]? = some u → w0.cell? ⟨b, off + k * 4 + j, none⟩ = some u) :
    w.cell? ⟨b, off + k * 4, none⟩ = some (.int .i64 a.kind) ∧ w.cell? ⟨b, off + k * 4 + 1, none⟩ = some (.int .i64 a.raw) ∧ w.cell? ⟨b, off + k * 4 + 2, none⟩ = some (.int .i64 a.by_) ∧ w.cell? ⟨b, off + k * 4 + 3, none⟩ = some (.bool a.step) :=
  ⟨((bcell hB).1 b _ hb).trans (hc 0 _ rfl), ((bcell hB).1 b _ hb).trans (hc 1 _ rfl), ((bcell hB).1 b _ hb).trans (hc 2 _ rfl), ((bcell hB).1 b _ hb).trans (hc 3 _ rfl)⟩
set_option maxRecDepth 100000 in
set_option maxHeartbeats 6400000 in
theorem walk (a0 : Int) (v1 : Value) (l : List Ac) (a2 : Int) (w : World) (w0 : (Lit.int .i64 a0).wf = true) (iv : SlAt (fun b => b < w.heap.size) 4 acE w v1 l) (ty : ∀ f ∈ l, Ac.Typed f) (hlm : l.length ≤ maxLen) (w2 : (Lit.int .i64 a2).wf = true) :
    Calls Try.prog 3 #[.int .i64 a0, v1, .int .i64 a2] w fun e w' => e = .returned (.bool true) ∧ Below w.heap.size w w' := by
  obtain ⟨l0, u0⟩ := i64_bounds w0
  obtain ⟨l2, u2⟩ := i64_bounds w2
  obtain ⟨x, c, rfl⟩ := iv.slice
  have cz := shown7_any
  clear w0 w2
  by_cases hl : 200 < l.length
  · have hli : 200 < (l.length : Int) := by omega
    clear iv
    go_enter Try.func3, Try.ntmps3
    go_wp2_with fail
    (with_reducible refine (cz _).mono ?_)
    rintro e w1 ⟨rfl, hB⟩
    go_wp2_with fail
    go_ret
    exact ⟨rfl, hB⟩
  · have hli : ¬ 200 < (l.length : Int) := by omega
    have c1 := fun w' (h : Below w.heap.size w w') => onew_any a0 l0 u0 w w' h
    have c2 := rnew_any a0 l0 u0
    have IV := Lib.hid iv
    clear iv
    go_enter Try.func3, Try.ntmps3
    go_wp2_with fail
    (with_reducible refine (cz _).mono ?_)
    rintro e w1 ⟨rfl, hB⟩
    go_wp2_with fail
    (with_reducible refine (c1 _ hB).mono ?_)
    rintro e w2 ⟨pc, rfl, h1⟩
    go_wp2_with fail
    (with_reducible refine (c2 _).mono ?_)
    rintro e w3 ⟨rfl, hR, hB3⟩
    have hb := bnew h1 hR hB3
    clear h1 hR hB hB3
    generalize w2.heap.size = pr at *
    clear w1 w2
    go_wp2_with fail
    go_loopw [9] (fun i wr => ∃ k : Nat, k ≤ l.length ∧ i = .int .i64 k ∧ Both w wr pc pr (actsS (newS a0) (l.take k))) (fun i _ => l.length - (intOf i).toNat)
    case atStart => exact ⟨0, Nat.zero_le _, rfl, hb⟩
    case round =>
      obtain ⟨k, hk, rfl, hb⟩ := hrel
      have okk := acts_ok (new_ok a0) (l.take k)
      by_cases hlt : k < l.length
      · obtain ⟨f, hf, hfm⟩ := at_index l k hlt
        have hnx := acts_next (newS a0) l k f hf
        have okn := act_ok okk f
        generalize actsS (newS a0) (l.take k) = cc at *
        have HN := Lib.hid hnx
        clear hnx
        generalize hcn : actS cc f = cn at *
        rcases IV.out with ⟨_, _, _, _, rfl⟩ | ⟨b, off, cap, hv, hbl, hc⟩
        · simp at hlt
        · simp only [Value.slice.injEq] at hv
          obtain ⟨rfl, _, rfl⟩ := hv
          have hcf := hc k f hf
          obtain ⟨a0', a1', a2', a3'⟩ := act_at hb.below hbl hcf
          have i0 : (0 : Int) ≤ (k : Int) := by omega
          have i1 : (k : Int) < (l.length : Int) := by omega
          have tyf := ty f hfm
          have hbd : Both w wr.drew pc pr cc := hb.kept (Below.refl _ _).drew
          have y := fun w' (h : Both w w' pc pr cc) => does_any okk f tyf w' h
          rw [hcn] at y
          have HC := Lib.hid hcf
          clear hc hf hcf
          go_wp2_with fail
          refine wp_region_any (by kernel_rfl) ?_
          change wpAny _ _ _ _ _ _ _ (World.drew _)
          refine wpAny_take (i := 0) (v := .pointer (some ⟨pc, 0, none⟩)) rfl (by kernel_rfl) (by kernel_rfl) (by kernel_rfl) (fun _ _ _ h => h) (Or.inl ⟨by rfl, fun w => by go_simp⟩) ?_
          refine wpAny_take (i := 1) (v := .pointer (some ⟨pr, 0, none⟩)) rfl (by kernel_rfl) (by kernel_rfl) (by kernel_rfl) (fun _ _ _ h => h) (Or.inl ⟨by rfl, fun w => by go_simp⟩) ?_
          refine wpAny_take (i := 2) (v := .slice (some ⟨b, off, none⟩) l.length c) rfl (by kernel_rfl) (by kernel_rfl) (by kernel_rfl) (fun _ _ _ h => h) (Or.inl ⟨by rfl, fun w => by go_simp⟩) ?_
          refine wpAny_take (i := 3) (v := .int .i64 (k : Int)) rfl (by kernel_rfl) (by kernel_rfl) (by kernel_rfl) (fun _ _ _ h => h) (Or.inl ⟨by rfl, fun w => by go_simp⟩) ?_
          refine wpAny_take (i := 4) (v := .pointer (some ⟨b, off + k * 4, none⟩)) rfl (by kernel_rfl) (by kernel_rfl) (by kernel_rfl) (fun _ _ _ h => h) (Or.inl ⟨by rfl, fun w => by go_simp⟩) ?_
          refine wpAny_ready (rs := [5]) (by kernel_rfl) (by simp) ?_
          refine AllReady.cons rfl (fun K hK => ?_) (AllReady.nil)
          go_simp
          (refine hK _ _ ?_; clear hK K)
          refine wpAny_ready (rs := [6]) (by kernel_rfl) (by simp) ?_
          refine AllReady.cons rfl (fun K hK => ?_) (AllReady.nil)
          go_simp
          go_wp2_with ((go_at_call 10; refine (y _ hbd).mono ?_; rintro e w1 ⟨rfl, hb1⟩))
          first | (refine hK _ _ ?_; clear hK K) | skip
          obtain ⟨s0, s2, _⟩ := hb1.cells
          refine wpAny_take (i := 7) (v := .bool false) rfl (by kernel_rfl) (by kernel_rfl) (by kernel_rfl) (fun _ _ _ h => h) (Or.inl ⟨by rfl, fun w => by go_simp⟩) ?_
          refine wpAny_take (i := 8) (v := .bool false) rfl (by kernel_rfl) (by kernel_rfl) (by kernel_rfl) (fun _ _ _ h => h) (Or.inl ⟨by rfl, fun w => by go_simp⟩) ?_
          refine wpAny_take (i := 9) (v := .pointer (some ⟨pc, 0, none⟩)) rfl (by kernel_rfl) (by kernel_rfl) (by kernel_rfl) (fun _ _ _ h => h) (Or.inl ⟨by rfl, fun w => by go_simp⟩) ?_
          refine wpAny_take (i := 11) (v := .pointer (some ⟨pr, 0, none⟩)) rfl (by kernel_rfl) (by kernel_rfl) (by kernel_rfl) (fun _ _ _ h => h) (Or.inl ⟨by rfl, fun w => by go_simp⟩) ?_
          refine wpAny_take (i := 12) (v := .pointer (some ⟨pr, 0, none⟩)) rfl (by kernel_rfl) (by kernel_rfl) (by kernel_rfl) (fun _ _ _ h => h) (Or.inl ⟨by rfl, fun w => by go_simp⟩) ?_
          refine wpAny_take (i := 13) (v := .pointer (some ⟨pr, 2, none⟩)) rfl (by kernel_rfl) (by kernel_rfl) (by kernel_rfl) (fun _ _ _ h => h) (Or.inl ⟨by rfl, fun w => by go_simp⟩) ?_
          refine wpAny_ready (rs := [10, 14]) (by kernel_rfl) (by simp) ?_
          refine AllReady.cons rfl (fun K hK => ?_) (AllReady.cons rfl (fun K hK => ?_) (AllReady.nil))
          · go_simp
            go_wp2_with ((go_at_call 11; refine (bspeed_any hb1).mono ?_; rintro e w2 ⟨rfl, hb2⟩))
            first | (refine hK _ _ ?_; clear hK K) | skip
            obtain ⟨t0, t2, _⟩ := hb2.cells
            refine wpAny_ready (rs := [14]) (by kernel_rfl) (by simp) ?_
            refine AllReady.cons rfl (fun K hK => ?_) (AllReady.nil)
            go_simp
            (refine hK _ _ ?_; clear hK K)
            refine wpAny_take (i := 15) (v := .bool false) rfl (by kernel_rfl) (by kernel_rfl) (by kernel_rfl) (fun _ _ _ h => h) (Or.inl ⟨by rfl, fun w => by go_simp⟩) ?_
            refine wpAny_take (i := 16) (v := .bool false) rfl (by kernel_rfl) (by kernel_rfl) (by kernel_rfl) (fun _ _ _ h => h) (Or.inl ⟨by rfl, fun w => by go_simp⟩) ?_
            refine wpAny_done (by kernel_rfl) ?_ _
            go_wp2_with fail
            refine (btot_any okn a2 l2 u2 hb2).mono ?_
            rintro e w4 ⟨rfl, hb4⟩
            go_wp2_with fail
            refine (brtot_any okn a2 l2 u2 hb4).mono ?_
            rintro e w5 ⟨rfl, hb5⟩
            go_wp2_with fail
            go_roundw
            case rel => exact ⟨k + 1, by omega, by go_num, by rw [HN.out]; exact hb5⟩
            case measure => simp [intOf]; omega
          · go_simp
            (refine hK _ _ ?_; clear hK K)
            refine wpAny_ready (rs := [10]) (by kernel_rfl) (by simp) ?_
            refine AllReady.cons rfl (fun K hK => ?_) (AllReady.nil)
            go_simp
            go_wp2_with ((go_at_call 11; refine (bspeed_any hb1).mono ?_; rintro e w2 ⟨rfl, hb2⟩))
            first | (refine hK _ _ ?_; clear hK K) | skip
            refine wpAny_take (i := 15) (v := .bool false) rfl (by kernel_rfl) (by kernel_rfl) (by kernel_rfl) (fun _ _ _ h => h) (Or.inl ⟨by rfl, fun w => by go_simp⟩) ?_
            refine wpAny_take (i := 16) (v := .bool false) rfl (by kernel_rfl) (by kernel_rfl) (by kernel_rfl) (fun _ _ _ h => h) (Or.inl ⟨by rfl, fun w => by go_simp⟩) ?_
            refine wpAny_done (by kernel_rfl) ?_ _
            go_wp2_with fail
            refine (btot_any okn a2 l2 u2 hb2).mono ?_
            rintro e w4 ⟨rfl, hb4⟩
            go_wp2_with fail
            refine (brtot_any okn a2 l2 u2 hb4).mono ?_
            rintro e w5 ⟨rfl, hb5⟩
            go_wp2_with fail
            go_roundw
            case rel => exact ⟨k + 1, by omega, by go_num, by rw [HN.out]; exact hb5⟩
            case measure => simp [intOf]; omega
      · obtain rfl : k = l.length := by omega
        generalize actsS (newS a0) (l.take l.length) = cc at *
        have hcl : cc.l.length ≤ 1000000 := Nat.le_trans okk.l (by decide)
        have hsame : lSame enEq cc.l cc.l = true := (lSame_iff enEq_iff _ _).2 rfl
        have hbd : Both w wr.drew pc pr cc := hb.kept (Below.refl _ _).drew
        obtain ⟨_, _, vr, s3, hsr⟩ := hbd.cells
        have hpr : pr < wr.drew.heap.size := World.block_lt_of_cell? wr.drew _ s3
        have HSR := Lib.hid hsr
        have HS3 := Lib.hid s3
        clear hsr s3
        go_wp2_with fail
        go_region_held3 (fun w' => w'.cell? ⟨pr, 3, none⟩ = some vr)
          (first | exact HS3.out | exact ((bcell hB1).1 pr _ hpr).trans HS3.out | exact ((bcell (hB1.trans (hB2.mono hB1.size))).1 pr _ hpr).trans HS3.out | exact ((bcell (below_drewN (hB1.trans (hB2.mono hB1.size)) _)).1 pr _ hpr).trans HS3.out)
          (first
            | (go_at_call 16; refine (bent_any okk hbd).mono ?_; rintro e w1 ⟨x1, rfl, hs1, hB1⟩)
            | (go_at_call 15; refine (theirs7_any cc.l hcl x1 _ (fun k hk => hk.2) hs1).mono ?_; rintro e w2 ⟨x2, rfl, hs2, hB2⟩)
            | (go_at_call 14; refine (rsame7_any cc.l cc.l hcl hcl x2 vr _ hs2 (HSR.out.kept (fun b hb => (hB1.trans (hB2.mono hB1.size)).block b hb))).mono ?_; rintro e w3 ⟨rfl, n, rfl⟩))
        go_wp2_with fail
        go_ret
        exact ⟨rfl, below_drewN ((hbd.kept hB1).kept hB2).below _⟩
set_option maxRecDepth 100000 in
theorem lifted (os : Os) (started : os.Started) (H : Type) (enc : TypeId × Value → H) :
    ReturnsInHanded {} Try.checked os 3 .any (Rows.ledgerActsSpec.pre6 enc Try.prog Try.f3 Rows.ledgerActsRow.domain false) (Rows.ledgerActsSpec.post enc Try.prog Try.f3 false true false false) := by
  refine returnsInHanded_of_change (C := Try.checked) own started (by kernel_rfl) Try.func3
    (ChangeSpec.witness6 (enc := enc) (C := Try.checked) false ⟨#[], #[.int .i64 0, .slice none 0 0, .int .i64 0], []⟩ 8 (by kernel_rfl) (by kernel_rfl) (by kernel_rfl) (by kernel_rfl)) ?_
  intro W base args ds gs before hval0 hW hcnd _
  have hval : ∀ (j : Nat) t v, Try.f3.params[j]? = some t → args[j]? = some v → Value.okWide Try.prog W .any base t v := hval0
  have hW' := hW
  obtain ⟨p, q, hA0, hV, rfl, hfz, hnd⟩ := hW
  have hA : DataW.TrodAll enc Try.prog W 0 (fun _ => true) true Try.f3.params.toList args.toList ds p := hA0
  rw [Try.params3] at hA hval
  obtain ⟨v0, vs0, d0, ds0, p0, q0, hargs, rfl, rfl, h0, r0⟩ := trodAll_cons hA
  obtain ⟨v1, vs1, d1, ds1, p1, q1, rfl, rfl, rfl, h1, r1⟩ := trodAll_cons r0
  obtain ⟨v2, vs2, d2, ds2, p2, q2, rfl, rfl, rfl, h2, r2⟩ := trodAll_cons r1
  obtain ⟨rfl, rfl, rfl⟩ := trodAll_nil r2
  obtain rfl : args = #[v0, v1, v2] := by cases args; simp_all
  obtain ⟨rfl, rfl⟩ := trodVars_none hV
  obtain ⟨a0, rfl, rfl, rfl, w0⟩ := open_int Try.underlying2 (hval 0 2 v0 rfl rfl) h0
  have k1 := h1
  have lt1 : ∀ x ∈ p1, x.block < W.heap.size := by obtain ⟨m, hm⟩ := k1; exact DataW.trod_lt m _ _ _ hm
  obtain ⟨a1, len1, cap1, rfl⟩ := okWide_slice Try.underlying22 (hval 1 22 v1 rfl rfl)
  obtain ⟨z1, w1a, w1b, w1c⟩ : ∃ l : List Ac, SlAt (fun b => b < W.heap.size) 4 acE W (.slice a1 len1 cap1) l ∧ (∀ f ∈ l, Ac.Typed f) ∧ l.length ≤ maxLen := by
    obtain ⟨fuel, hf⟩ := h1
    obtain ⟨v, l, hcs, h1, h2, h3⟩ := open_acts hf
    simp [Value.cells] at hcs
    subst hcs
    exact ⟨l, h1, h2, h3⟩
  obtain ⟨a2, rfl, rfl, rfl, w2⟩ := open_int Try.underlying2 (hval 2 2 v2 rfl rfl) h2
  clear hA0 hval0
  refine (walk a0 (.slice a1 len1 cap1) z1 a2 W w0 w1a w1b w1c w2).mono fun e W' ⟨he, bel⟩ => ?_
  subst he
  exact ⟨_, rfl, _, _, _, [], _, [], hW', trodAll_mk1 (shut_bool Try.underlying4 _), (trodAll_cons_mk (shut_int Try.underlying2 w0) (trodAll_cons_mk (Below.trod laidOut (by kernel_rfl) (of_decide_eq_true (by kernel_rfl)) k1 bel lt1) (trodAll_cons_mk (shut_int Try.underlying2 w2) trodAll_mk0))), rfl, bel.frame _, fun h => by cases h⟩

theorem over : Rows.ledgerActsRow.holds Try.pinned (OpenSpec.ofChange Rows.ledgerActsSpec) :=
  OpenClaim.holds_of_wide 3 Try.f3 rfl rfl rfl rfl rfl rfl rfl ⟨rfl, rfl, rfl, rfl, rfl⟩ rfl rfl rfl rfl rfl (by kernel_rfl) Try.func3 (by kernel_rfl)
    (of_decide_eq_true (by kernel_rfl)) (by unfold Func.isWrapper; first | (rw [if_pos (by decide +kernel)]; kernel_rfl) | (rw [if_neg (by decide +kernel)]; exact ⟨rfl, rfl⟩))
    (fun os started H enc _ => lifted os started H enc)

theorem proved : Rows.LedgerActsSaid := over
end Go.Proofs.Ytaklalpbncdijaa.LedgerActs
