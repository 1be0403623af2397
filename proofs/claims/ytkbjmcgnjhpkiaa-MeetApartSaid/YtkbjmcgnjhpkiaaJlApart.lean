/- MeetApart: spans of which no two meet have nothing that most hold; but for one alone, that is its own. No further condition. -/
import Derived.Test.YtkbjmcgnjhpkiaaMtZ
import Derived.WalkKit
import Derived.WalkSpells
import Derived.WalkLawsBesides
import Derived.Lib.Hide
import Derived.Handy
import Derived.ProofKit
import Derived.OpenShut
import Derived.ShutString
import Derived.ChangeOld
import Derived.Below
namespace Go.Proofs.Ytkbjmcgnjhpkiaa.MeetApart
open Go.RowKit Go.Sort Go.Proofs.Ytkbjmcgnjhpkiaa.W
open Go.ChangeShapes Go.WideShapes Go.ChangeAt
open Go.ChangeMaps (open_string shut_string)
set_option linter.unusedVariables false
set_option linter.unusedSimpArgs false
theorem own : ownKnob Try.prog.godebug = none := by kernel_rfl
theorem laidOut : laidOutB Try.prog = true := by kernel_rfl
theorem two_in16 {w : World} {b : Nat} {x y : Value} {t : TypeId} (h : w.heap[b]? = some (.cells #[x, y] t (0, 0))) : w.cell? ⟨b, 0, none⟩ = some x ∧ w.cell? ⟨b, 1, none⟩ = some y := by constructor <;> simp [World.cell?, h]
set_option maxRecDepth 100000 in
set_option maxHeartbeats 25600000 in
theorem walk (many wd : Int) (w : World) (wm : (Lit.int .u8 many).wf = true) (ww : (Lit.int .u16 wd).wf = true) :
    Calls Try.prog 8 #[.int .u8 many, .int .u16 wd] w fun e w' => e = .returned (.bool true) ∧ Below w.heap.size w w' := by
  have k0 := bounds_u8 wm
  have k1 := bounds_u16 ww
  obtain ⟨kn, rfl⟩ : ∃ kn : Nat, many = (kn : Int) := ⟨many.toNat, by omega⟩
  clear wm ww
  obtain ⟨i0, hi0, hz0, hz1, hz2⟩ := info_parts info_cd
  have cs := shown16_any
  obtain ⟨n, hn⟩ : ∃ n, kn % 11 = n := ⟨_, rfl⟩
  have hn10 : n ≤ 10 := by omega
  have hrem : Int.tmod (kn : Int) 11 = (n : Int) := by rw [← hn]; rfl
  have hwk : IntKind.i64.wrap (kn : Int) = (kn : Int) := by rw [IntKind.wrap_i64]; omega
  have hwn : IntKind.i64.wrap (n : Int) = (n : Int) := by rw [IntKind.wrap_i64]; omega
  have hww : IntKind.i64.wrap wd = wd := by rw [IntKind.wrap_i64]; omega
  have hww1 : IntKind.i64.wrap (wd + 1) = wd + 1 := by rw [IntKind.wrap_i64]; omega
  have hcT := ap_chk (wd := wd) (by omega) hn10
  have bnd : ∀ i : Nat, i < 11 → 0 ≤ (i : Int) * (wd + 1) ∧ (i : Int) * (wd + 1) ≤ 720896 := fun i hi => by
    constructor
    · exact Int.mul_nonneg (by omega) (by omega)
    · exact Int.le_trans (Int.mul_le_mul (show (i : Int) ≤ 11 by omega) (show wd + 1 ≤ 65536 by omega) (by omega) (by omega)) (by decide)
  have TT := Lib.hid (show ∀ c ∈ apL wd n, c.Typed from fun c hc => by
    obtain ⟨i, hi, rfl⟩ := ap_mem hc
    have := bnd i (by omega)
    refine ⟨?_, ?_, ?_⟩ <;> (unfold apC; dsimp only; omega))
  have BND := Lib.hid bnd
  have ownS := ownsRow_fresh w 41 3 w.heap.size (Nat.le_refl _)
  have bS := (Below.refl w.heap.size w).alloc (Nat.le_refl _) (.cells #[] 41)
  clear bnd hn
  go_enter Try.func8, Try.ntmps8
  go_wp2_with fail
  go_loopw [6, 7] (fun o i wr => ∃ q : Nat, q ≤ n ∧ i = .int .i64 (q : Int) ∧ wr.ownsRow w.heap.size 41 3 o (apL wd q).length ((apL wd q).flatMap cdC) ∧ Below w.heap.size w wr) (fun _ i _ => n - (intOf i).toNat)
  case atStart => exact ⟨0, Nat.zero_le _, rfl, ownS, bS⟩
  case round =>
    obtain ⟨q, hq, rfl, own, hB⟩ := hrel
    clear ownS bS
    have z1 := hB.size
    have hrl := ap_length wd q
    have OL := Lib.hid own
    rw [hrl] at own
    by_cases hlt : q < n
    · have i1 : (q : Int) < n := by omega
      have hst := ap_step wd q
      have hb := BND.out q (by omega)
      have hm1 : IntKind.i64.wrap ((q : Int) * (wd + 1)) = (q : Int) * (wd + 1) := by rw [IntKind.wrap_i64]; omega
      have hm2 : IntKind.i64.wrap ((q : Int) * (wd + 1) + wd) = (q : Int) * (wd + 1) + wd := by rw [IntKind.wrap_i64]; omega
      have TK := Lib.hid hst
      clear hst hb hrl
      go_wp2_with (at_builtin; refine wpList_append_own _ rfl _ _ 22 rfl w.heap.size 41 i0 _ 3 24 Try.underlying22 hi0 hz0 hz1 hz2 rfl (by decide) _ _ _ rfl (own.alloc _) ⟨wr.heap.size, 0, none⟩ 1 1 (cdC (apC wd q)) rfl rfl (cd_row _ (apC wd q) _) (cdC_one _) (by unfold maxLen; omega) (by omega) (by first | (rw [World.size_alloc]; omega) | (simp; omega)) ?_; intro v4 w4 hown4 hgrow4 _; have own4 : w4.ownsRow w.heap.size 41 3 v4 (apL wd (q + 1)).length ((apL wd (q + 1)).flatMap cdC) := (by rw [TK.out, List.flatMap_append, List.length_append, ap_length]; simpa using hown4); have B4 := (hB.alloc (by omega) (.cells (cdA (apC wd q)) 41)).grown hgrow4 (by first | (rw [World.size_alloc]; omega) | (simp; omega)) (fun g hg => by have := (own.lt g hg).1; omega); have z4 := B4.size)
      go_roundw
      case rel => exact ⟨q + 1, by omega, by go_num, own4, B4⟩
      case measure => simp [intOf]; omega
    · have eq : q = n := by omega
      subst eq
      generalize wr = wo at *
      have hT := SlAt.own cdC_length OL.out
      obtain ⟨tx, tc, rfl⟩ := hT.slice
      rw [hrl] at hT ⊢
      have hqi : ((q : Int) == 1) = decide (q = 1) := by
        by_cases h : q = 1
        · subst h; rfl
        · rw [decide_eq_false h]; exact beq_eq_false_iff_ne.2 (by omega)
      by_cases h1 : q = 1
      · rw [decide_eq_true h1] at hqi
        obtain ⟨e1, e2, e3⟩ := ap_meet (wd := wd) (by omega)
        rw [← h1] at e1 e2 e3
        have hM1 : meetF (apL wd q) = some ((0, wd), 0) := e1
        have hA1 : allowI (apL wd q) = 0 := by unfold allowI; rw [e1]; rfl
        have hM2 : majF (apL wd q) = some (0, wd) := e2
        have hM3 : spanF (apL wd q) = some (0, wd) := by unfold spanF; rw [e1]
        obtain ⟨P, hP⟩ : ∃ P, selL (apL wd q) = P := ⟨_, rfl⟩
        have hM4 := hP
        have hPl : P.length = 1 := by rw [← hP, e3]; rfl
        clear e1 e2 e3 hP h1
        have XM : ∀ W, Below wo.heap.size wo W → Calls Try.prog 16 #[.slice tx q tc] W fun e w' => e = .returned (.tuple #[.agg #[.int .i64 0, .int .i64 wd], .int .i64 0, .bool true]) ∧ Below W.heap.size W w' := fun W h => by
          have q := mmeet_any (apL wd q) TT.out hcT W (hT.kept (fun b hb => h.block b hb.2)) (fun b hb => Nat.lt_of_lt_of_le hb.2 h.size)
          rw [hM1, hA1] at q
          exact q
        have XJ : ∀ W, Below wo.heap.size wo W → Calls Try.prog 14 #[.slice tx q tc] W fun e w' => e = .returned (.tuple #[.agg #[.int .i64 0, .int .i64 wd], .bool true]) ∧ Below W.heap.size W w' := fun W h => by
          have q := mmaj_any (apL wd q) TT.out hcT W (hT.kept (fun b hb => h.block b hb.2)) (fun b hb => Nat.lt_of_lt_of_le hb.2 h.size)
          rw [hM2] at q
          exact q
        have XS : ∀ W, Below wo.heap.size wo W → Calls Try.prog 15 #[.slice tx q tc] W fun e w' => ∃ u, e = .returned (.tuple #[.agg #[.int .i64 0, .int .i64 wd], u, .bool true]) ∧ SlAt (fun b => W.heap.size ≤ b ∧ b < w'.heap.size) 1 plE w' u P ∧ Below W.heap.size W w' := fun W h => by
          have q := msel_any (apL wd q) TT.out hcT W (hT.kept (fun b hb => h.block b hb.2)) (fun b hb => Nat.lt_of_lt_of_le hb.2 h.size)
          rw [hM3, hM4] at q
          exact q
        have HX := Lib.hid (And.intro XM (And.intro XJ XS))
        have BR := Below.refl wo.heap.size wo
        have BW := hB
        clear XM XJ XS hT own hB hM1 hM2 hM3 hM4 hA1 hcT
        have kk := HX.out.1 _ BR
        go_wp2_with fail
        (with_reducible refine kk.mono ?_)
        rintro e w3 ⟨rfl, hb⟩
        replace BR := BR.trans (hb.mono BR.size)
        replace BW := BW.trans (hb.mono BW.size)
        clear hb kk
        replace BR := BR.alloc BR.size (.cells #[.int .i64 0, .int .i64 wd] 31)
        replace BW := BW.alloc BW.size (.cells #[.int .i64 0, .int .i64 wd] 31)
        go_upto_region 9 with fail
        generalize w3.alloc (.cells #[.int .i64 0, .int .i64 wd] 31) = w4 at *
        have kk := HX.out.2.1 _ BR
        go_wp2_with fail
        (with_reducible refine kk.mono ?_)
        rintro e w5 ⟨rfl, hb⟩
        replace BR := BR.trans (hb.mono BR.size)
        replace BW := BW.trans (hb.mono BW.size)
        clear hb kk
        have hr := heap_alloc_new w5 (.cells #[.int .i64 0, .int .i64 wd] 31)
        replace BR := BR.alloc BR.size (.cells #[.int .i64 0, .int .i64 wd] 31)
        replace BW := BW.alloc BW.size (.cells #[.int .i64 0, .int .i64 wd] 31)
        go_upto_region 10 with fail
        generalize w5.alloc (.cells #[.int .i64 0, .int .i64 wd] 31) = w6 at *
        have kk := HX.out.2.2 _ BR
        go_wp2_with fail
        (with_reducible refine kk.mono ?_)
        rintro e w7 ⟨u, rfl, hu, hb⟩
        obtain ⟨ux, uc, rfl⟩ := hu.slice
        rw [hPl]
        clear hu
        replace hr := kept hr hb
        replace BR := BR.trans (hb.mono BR.size)
        replace BW := BW.trans (hb.mono BW.size)
        clear hb kk
        replace hr := laid (.cells #[.int .i64 0, .int .i64 wd] 31) hr
        replace BR := BR.alloc BR.size (.cells #[.int .i64 0, .int .i64 wd] 31)
        replace BW := BW.alloc BW.size (.cells #[.int .i64 0, .int .i64 wd] 31)
        go_upto_region 11 with fail
        generalize w7.alloc (.cells #[.int .i64 0, .int .i64 wd] 31) = w8 at *
        obtain ⟨r0, r1⟩ := two_in16 hr
        have HB := Lib.hid BW
        have HR := Lib.hid hr
        clear BR hr
        go_wp2_with fail
        (with_reducible refine (cs _).mono ?_)
        rintro e w9 ⟨rfl, hb9⟩
        have HB9 := Lib.hid (BW.trans (hb9.mono BW.size))
        clear hb9 BW
        go_wp2_with fail
        go_ret
        exact ⟨by first | rfl | simp, HB9.out⟩
      · rw [decide_eq_false h1] at hqi
        obtain ⟨e1, e2⟩ := ap_none (wd := wd) (by omega) h1
        have hM1 : meetF (apL wd q) = none := e1
        have hA1 : allowI (apL wd q) = 0 := by unfold allowI; rw [e1]
        have hM2 : majF (apL wd q) = none := e2
        have hM3 : spanF (apL wd q) = none := by unfold spanF; rw [e1]; exact e2
        obtain ⟨P, hP⟩ : ∃ P, selL (apL wd q) = P := ⟨_, rfl⟩
        have hM4 := hP
        have hPl : P.length = 0 := by rw [← hP]; unfold selL; rw [hM3]; rfl
        clear e1 e2 hP h1
        have XM : ∀ W, Below wo.heap.size wo W → Calls Try.prog 16 #[.slice tx q tc] W fun e w' => e = .returned (.tuple #[.agg #[.int .i64 0, .int .i64 0], .int .i64 0, .bool false]) ∧ Below W.heap.size W w' := fun W h => by
          have q := mmeet_any (apL wd q) TT.out hcT W (hT.kept (fun b hb => h.block b hb.2)) (fun b hb => Nat.lt_of_lt_of_le hb.2 h.size)
          rw [hM1, hA1] at q
          exact q
        have XJ : ∀ W, Below wo.heap.size wo W → Calls Try.prog 14 #[.slice tx q tc] W fun e w' => e = .returned (.tuple #[.agg #[.int .i64 0, .int .i64 0], .bool false]) ∧ Below W.heap.size W w' := fun W h => by
          have q := mmaj_any (apL wd q) TT.out hcT W (hT.kept (fun b hb => h.block b hb.2)) (fun b hb => Nat.lt_of_lt_of_le hb.2 h.size)
          rw [hM2] at q
          exact q
        have XS : ∀ W, Below wo.heap.size wo W → Calls Try.prog 15 #[.slice tx q tc] W fun e w' => ∃ u, e = .returned (.tuple #[.agg #[.int .i64 0, .int .i64 0], u, .bool false]) ∧ SlAt (fun b => W.heap.size ≤ b ∧ b < w'.heap.size) 1 plE w' u P ∧ Below W.heap.size W w' := fun W h => by
          have q := msel_any (apL wd q) TT.out hcT W (hT.kept (fun b hb => h.block b hb.2)) (fun b hb => Nat.lt_of_lt_of_le hb.2 h.size)
          rw [hM3, hM4] at q
          exact q
        have HX := Lib.hid (And.intro XM (And.intro XJ XS))
        have BR := Below.refl wo.heap.size wo
        have BW := hB
        clear XM XJ XS hT own hB hM1 hM2 hM3 hM4 hA1 hcT
        have kk := HX.out.1 _ BR
        go_wp2_with fail
        (with_reducible refine kk.mono ?_)
        rintro e w3 ⟨rfl, hb⟩
        replace BR := BR.trans (hb.mono BR.size)
        replace BW := BW.trans (hb.mono BW.size)
        clear hb kk
        replace BR := BR.alloc BR.size (.cells #[.int .i64 0, .int .i64 0] 31)
        replace BW := BW.alloc BW.size (.cells #[.int .i64 0, .int .i64 0] 31)
        go_upto_region 9 with fail
        generalize w3.alloc (.cells #[.int .i64 0, .int .i64 0] 31) = w4 at *
        have kk := HX.out.2.1 _ BR
        go_wp2_with fail
        (with_reducible refine kk.mono ?_)
        rintro e w5 ⟨rfl, hb⟩
        replace BR := BR.trans (hb.mono BR.size)
        replace BW := BW.trans (hb.mono BW.size)
        clear hb kk
        have hr := heap_alloc_new w5 (.cells #[.int .i64 0, .int .i64 0] 31)
        replace BR := BR.alloc BR.size (.cells #[.int .i64 0, .int .i64 0] 31)
        replace BW := BW.alloc BW.size (.cells #[.int .i64 0, .int .i64 0] 31)
        go_upto_region 10 with fail
        generalize w5.alloc (.cells #[.int .i64 0, .int .i64 0] 31) = w6 at *
        have kk := HX.out.2.2 _ BR
        go_wp2_with fail
        (with_reducible refine kk.mono ?_)
        rintro e w7 ⟨u, rfl, hu, hb⟩
        obtain ⟨ux, uc, rfl⟩ := hu.slice
        rw [hPl]
        clear hu
        replace hr := kept hr hb
        replace BR := BR.trans (hb.mono BR.size)
        replace BW := BW.trans (hb.mono BW.size)
        clear hb kk
        replace hr := laid (.cells #[.int .i64 0, .int .i64 0] 31) hr
        replace BR := BR.alloc BR.size (.cells #[.int .i64 0, .int .i64 0] 31)
        replace BW := BW.alloc BW.size (.cells #[.int .i64 0, .int .i64 0] 31)
        go_upto_region 11 with fail
        generalize w7.alloc (.cells #[.int .i64 0, .int .i64 0] 31) = w8 at *
        obtain ⟨r0, r1⟩ := two_in16 hr
        have HB := Lib.hid BW
        have HR := Lib.hid hr
        clear BR hr
        go_wp2_with fail
        (with_reducible refine (cs _).mono ?_)
        rintro e w9 ⟨rfl, hb9⟩
        have HB9 := Lib.hid (BW.trans (hb9.mono BW.size))
        clear hb9 BW
        go_wp2_with fail
        go_ret
        exact ⟨by first | rfl | simp, HB9.out⟩
set_option maxRecDepth 100000 in
theorem lifted (os : Os) (started : os.Started) (H : Type) (enc : TypeId × Value → H) :
    ReturnsInHanded {} Try.checked os 8 .any (Rows.meetApartSpec.pre6 enc Try.prog Try.f8 Rows.meetApartRow.domain false) (Rows.meetApartSpec.post enc Try.prog Try.f8 false true false false) := by
  refine returnsInHanded_of_change (C := Try.checked) own started (by kernel_rfl) Try.func8
    (ChangeSpec.witness6 (enc := enc) (C := Try.checked) false ⟨#[], #[.int .u8 0, .int .u16 0], []⟩ 8 (by kernel_rfl) (by kernel_rfl) (by kernel_rfl) (by kernel_rfl)) ?_
  intro W base args ds gs before hval0 hW hcnd _
  have hval : ∀ (j : Nat) t v, Try.f8.params[j]? = some t → args[j]? = some v → Value.okWide Try.prog W .any base t v := hval0
  have hW' := hW
  obtain ⟨p, q, hA0, hV, rfl, hfz, hnd⟩ := hW
  have hA : DataW.TrodAll enc Try.prog W 0 (fun _ => true) true Try.f8.params.toList args.toList ds p := hA0
  rw [Try.params8] at hA hval
  obtain ⟨v0, vs0, d0, ds0, p0, q0, hargs, rfl, rfl, h0, r0⟩ := trodAll_cons hA
  obtain ⟨v1, vs1, d1, ds1, p1, q1, rfl, rfl, rfl, h1, r1⟩ := trodAll_cons r0
  obtain ⟨rfl, rfl, rfl⟩ := trodAll_nil r1
  obtain rfl : args = #[v0, v1] := by cases args; simp_all
  obtain ⟨rfl, rfl⟩ := trodVars_none hV
  obtain ⟨a0, rfl, rfl, rfl, w0⟩ := open_int Try.underlying5 (hval 0 5 v0 rfl rfl) h0
  obtain ⟨a1, rfl, rfl, rfl, w1⟩ := open_int Try.underlying47 (hval 1 47 v1 rfl rfl) h1
  clear hA0 hval0
  refine (walk a0 a1 W w0 w1).mono fun e W' ⟨he, bel⟩ => ?_
  subst he
  exact ⟨_, rfl, _, _, _, [], _, [], hW', trodAll_mk1 (shut_bool Try.underlying4 _), (trodAll_cons_mk (shut_int Try.underlying5 w0) (trodAll_cons_mk (shut_int Try.underlying47 w1) trodAll_mk0)), rfl, bel.frame _, fun h => by cases h⟩

theorem over : Rows.meetApartRow.holds Try.pinned (OpenSpec.ofChange Rows.meetApartSpec) :=
  OpenClaim.holds_of_wide 8 Try.f8 rfl rfl rfl rfl rfl rfl rfl ⟨rfl, rfl, rfl, rfl, rfl⟩ rfl rfl rfl rfl rfl (by kernel_rfl) Try.func8 (by kernel_rfl)
    (of_decide_eq_true (by kernel_rfl)) (by unfold Func.isWrapper; first | (rw [if_pos (by decide +kernel)]; kernel_rfl) | (rw [if_neg (by decide +kernel)]; exact ⟨rfl, rfl⟩))
    (fun os started H enc _ => lifted os started H enc)

theorem proved : Rows.MeetApartSaid := over
end Go.Proofs.Ytkbjmcgnjhpkiaa.MeetApart
