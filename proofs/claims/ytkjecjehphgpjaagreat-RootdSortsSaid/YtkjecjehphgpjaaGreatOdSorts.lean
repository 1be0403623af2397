/- RootdSorts: any servers are in the document's order: each place once, by metric. No further condition. -/
import Derived.Test.YtkjecjehphgpjaaGreatRtT
import Derived.Test.YtkjecjehphgpjaaGreatRtC
import Derived.Test.YtkjecjehphgpjaaGreatRtD
import Derived.Test.YtkjecjehphgpjaaGreatRtZ
import Derived.Test.YtkjecjehphgpjaaGreatRtY
import Derived.Test.YtkjecjehphgpjaaGreatFixD
import Derived.Test.YtkjecjehphgpjaaGreatWideA
import Derived.Test.YtkjecjehphgpjaaGreatSlA
import Derived.OpenShut
import Derived.ChangeOld
import Derived.Lib.Hide
import Derived.OneCell
import Derived.Lib.Zigzag
import Derived.WalkKit
import Derived.WalkSpells
import Derived.WalkLawsBesides
import Derived.Handy
import Derived.ProofKit
import Derived.ShutString
import Derived.Below
import Derived.Deep.Onto
import Derived.Maps.AppendAt
namespace Go.Proofs.YtkjecjehphgpjaaGreat.RootdSorts
open Go.RowKit Go.Sort Go.Proofs.YtkjecjehphgpjaaGreat.W
open Go.ChangeShapes Go.WideShapes Go.ChangeAt
open Go.ChangeMaps (open_string shut_string)
set_option linter.unusedVariables false
set_option linter.unusedSimpArgs false
theorem own : ownKnob Tryz.prog.godebug = none := by kernel_rfl
theorem laidOut : laidOutB Tryz.prog = true := by kernel_rfl
theorem info_sr : (Tryz.prog.info? 32).map (fun i => (i.zero, i.size, i.bytes)) = some (some (.agg #[.int .i64 0, .int .i64 0, .int .u32 0, .int .i64 0, .int .i64 0, .int .i64 0, .int .i64 0, .int .i64 0, .int .i64 0, .int .i64 0, .int .u8 0]), 11, 88) := by kernel_rfl
theorem sv_row (w : World) (s : Sv) (t : TypeId) : ∀ j u, (svC s)[j]? = some u → (w.alloc (.cells (svV s) t)).cell? ((⟨w.heap.size, 0, none⟩ : Addr).add j) = some u := by
  intro j u hu
  rw [Addr.add_lit, Nat.zero_add]
  have hj : j < 11 := (List.getElem?_eq_some_iff.1 hu).1
  have e : (svV s)[j]? = (svC s)[j]? := by
    have e' : svV s = (svC s).toArray := rfl
    rw [e', List.getElem?_toArray]
  simp only [World.cell?, heap_alloc_new]
  rw [← hu]
  exact e
theorem svC_one (s : Sv) : ∀ u ∈ svC s, u.oneCell' = true := by
  intro u hu
  simp only [svC, List.mem_cons, List.not_mem_nil, or_false] at hu
  rcases hu with rfl | rfl | rfl | rfl | rfl | rfl | rfl | rfl | rfl | rfl | rfl <;> rfl
set_option maxRecDepth 100000 in
set_option maxHeartbeats 12800000 in
theorem walk (p : Pm) (v : Value) (l : List Sv) (at_ : Int) (w : World) (tp : p.Typed) (hv : SlAt (fun b => b < w.heap.size) 11 svC w v l) (tl : ∀ s ∈ l, s.Typed) (hl : l.length ≤ maxLen) (wa : (Lit.int .i64 at_).wf = true) :
    Calls Tryz.prog 4 #[p.val, v, .int .i64 at_] w fun e w' => e = .returned (.bool true) ∧ Below w.heap.size w w' := by
  have hm : l.length ≤ 9223372036854775807 := by unfold maxLen at hl; omega
  have a0 := bounds_i64 wa
  have c0 := shown15_any
  have hA : Below w.heap.size w (w.alloc (.cells (pmV p) 23)) := (Below.refl _ _).alloc (Nat.le_refl _) _
  have zp : (w.alloc (.cells (pmV p) 23)).heap[w.heap.size]? = some (.cells (pmV p) 23 (0, 0)) := heap_alloc_new w _
  have lp1 := (Array.getElem?_eq_some_iff.1 zp).1
  have HV := Lib.hid hv
  obtain ⟨sx, sc, rfl⟩ := hv.slice
  clear hv wa hl
  by_cases h60 : 60 < l.length
  · have h6 : decide ((60 : Int) < (l.length : Int)) = true := decide_eq_true (by omega)
    have h6' : (60 : Int) < (l.length : Int) := by omega
    clear HV tl
    unfold Pm.val pmV at *
    go_enter Tryz.func4, Tryz.ntmps4
    go_wp2_with fail
    (with_reducible refine (c0 _).mono ?_)
    rintro e w2 ⟨rfl, hb2⟩
    have hq := hA.trans (hb2.mono hA.size)
    go_wp2_with fail
    go_ret
    exact ⟨rfl, hq⟩
  · have h6' : ¬ (60 : Int) < (l.length : Int) := by omega
    have h60' : l.length ≤ 60 := by omega
    obtain ⟨i0, hi0, hz0, hz1, hz2⟩ := info_parts info_sr
    have S1 := Lib.hid (fun (u : Value) (W : World) (F : Nat → Prop) (hs : SlAt F 11 svC W u l) (hF : ∀ b, F b → b < W.heap.size) => tsort_any p tp at_ a0 l tl h60' W hs hF)
    have S2 := Lib.hid (fun (u : Value) (W : World) (F : Nat → Prop) (hs : SlAt F 11 svC W u l) (hF : ∀ b, F b → b < W.heap.size) => rsort15_any p tp at_ a0 l tl h60' W hs hF)
    have CM : Hid (∀ s ∈ l, ∀ w, Calls Tryz.prog 12 #[.agg (pmV p), .agg (svV s), .int .i64 at_] w fun e w' => e = .returned (.int .i64 (metI p s at_)) ∧ Below w.heap.size w w') := Lib.hid (fun s hm w => tmet_any p tp s (tl s hm) at_ a0 w)
    have CT : Hid (∀ s : Sv, ∀ w, Calls Tryz.prog 5 #[.agg (svV s)] w fun e w' => e = .returned (.agg (svV s)) ∧ Below w.heap.size w w') := Lib.hid (fun s w => theirs15_any s w)
    have MN : Hid (∀ i s, l[i]? = some s → metN p l at_ i = metI p s at_) := Lib.hid (fun i s h => by unfold metN; rw [h])
    generalize metN p l at_ = m at *
    clear tl h60
    unfold Pm.val pmV svV at *
    go_enter Tryz.func4, Tryz.ntmps4
    go_upto_region 1 with fail
    generalize w.alloc (.cells #[.int .i64 p.step, .int .i64 p.watch, .int .i64 p.panic, .int .i64 p.maxrate, .int .i64 p.phi, .int .i64 p.maxdist, .int .i64 p.gate, .int .i64 p.minpoll, .int .i64 p.maxpoll, .int .i64 p.burst, .int .i64 p.minsane, .int .i64 p.minleft] 23) = w1 at *
    go_wp2_with fail
    (with_reducible refine (c0 _).mono ?_)
    rintro e w2 ⟨rfl, hb2⟩
    have zp2 := kept zp hb2
    have B2 := hA.trans (hb2.mono hA.size)
    have HP := Lib.hid (And.intro zp2 B2)
    have l2 : w.heap.size < w2.heap.size := (Array.getElem?_eq_some_iff.1 zp2).1
    clear zp2 B2 hb2 zp hA c0 lp1
    have ownS := ownsRow_fresh w2 32 11 w2.heap.size (Nat.le_refl _)
    have bS := (Below.refl w2.heap.size w2).alloc (Nat.le_refl _) (.cells #[] 32)
    go_wp2_with fail
    go_loopw [7, 8] (fun o i wr => ∃ n : Nat, n ≤ l.length ∧ i = .int .i64 (n : Int) ∧ wr.ownsRow w2.heap.size 32 11 o (l.take n).length ((l.take n).flatMap svC) ∧ Below w2.heap.size w2 wr) (fun _ i _ => l.length - (intOf i).toNat)
    case atStart => exact ⟨0, Nat.zero_le _, rfl, by rw [List.take_zero]; exact ownS, bS⟩
    case round =>
      obtain ⟨n, hn, rfl, own, hB⟩ := hrel
      clear ownS bS
      have z1 := hB.size
      have htl : (l.take n).length = n := by rw [List.length_take]; omega
      by_cases hlt : n < l.length
      · obtain ⟨s, hsn⟩ : ∃ s, l[n]? = some s := ⟨_, List.getElem?_eq_getElem hlt⟩
        have cs := CT.out s
        have i1 : (n : Int) < l.length := by omega
        have i0' : (0 : Int) ≤ (n : Int) := by omega
        rcases HV.out with ⟨_, _, _, _, hnil⟩ | ⟨b, off, cap', hvv, hbF, hcs⟩
        · rw [hnil] at hlt
          simp at hlt
        · obtain ⟨rfl, rfl⟩ : sx = some ⟨b, off, none⟩ ∧ sc = cap' := by simpa using hvv
          obtain ⟨x0, x1, x2, x3, x4, x5, x6, x7, x8, x9, x10⟩ := sv_at (w := wr) (b := b) (q := off + n * 11) (s := s) (fun j u hu => by
            rw [hB.cell (show b < w2.heap.size by omega), HP.out.2.cell hbF]
            exact hcs n s hsn j u hu)
          have htk : l.take (n + 1) = l.take n ++ [s] := by
            obtain ⟨h1, rfl⟩ := List.getElem?_eq_some_iff.1 hsn
            exact List.take_succ_eq_append_getElem h1
          have TK := Lib.hid htk
          clear htk hcs hvv
          rw [htl] at own
          go_wp2_with fail
          (with_reducible refine (cs _).mono ?_)
          rintro e w3 ⟨rfl, hb3⟩
          have own3 := own_kept15 own hb3
          have B3 := hB.trans (hb3.mono z1)
          have z3 := B3.size
          clear x0 x1 x2 x3 x4 x5 x6 x7 x8 x9 x10
          go_wp2_with (at_builtin; refine wpList_append_own _ rfl _ _ 46 rfl w2.heap.size 32 i0 _ 11 88 Tryz.underlying46 hi0 hz0 hz1 hz2 rfl (by decide) _ _ _ rfl (own3.alloc _) ⟨w3.heap.size, 0, none⟩ 1 1 (svC s) rfl rfl (sv_row _ _ _) (svC_one s) (by unfold maxLen; omega) (by omega) (by first | (rw [World.size_alloc]; omega) | (simp; omega)) ?_; intro v4 w4 hown4 hgrow4 _; have own4 : w4.ownsRow w2.heap.size 32 11 v4 (l.take (n + 1)).length ((l.take (n + 1)).flatMap svC) := (by rw [TK.out, List.flatMap_append, List.length_append, htl]; simpa using hown4); have B4 := (B3.alloc (by omega) (.cells (svV s) 32)).grown hgrow4 (by first | (rw [World.size_alloc]; omega) | (simp; omega)) (fun g hg => by have := (own3.lt g hg).1; omega); have z4 := B4.size)
          go_roundw
          case rel => exact ⟨n + 1, by omega, by go_num, own4, B4⟩
          case measure => simp [intOf]; omega
      · have enl : n = l.length := by omega
        subst enl
        rw [List.take_length] at own
        have SM := SlAt.own svC_length15 own
        generalize wr = wo at *
        obtain ⟨mx, mc, rfl⟩ := SM.slice
        have SLw : SlAt (fun b => b < w.heap.size) 11 svC wo (.slice sx l.length sc) l := HV.out.kept (fun b hb => (hB.block b (Nat.lt_trans hb l2)).trans (HP.out.2.block b hb))
        have zpr := kept HP.out.1 hB
        have Bo := HP.out.2.trans (hB.mono (Nat.le_of_lt l2))
        have k1 := S1.out _ wo _ SLw (fun b hb => Nat.lt_of_lt_of_le (Nat.lt_trans hb l2) z1)
        have HSM := Lib.hid SM
        have HSL := Lib.hid SLw
        have HBo := Lib.hid Bo
        have lo : w.heap.size < wo.heap.size := Nat.lt_of_lt_of_le l2 z1
        obtain ⟨q0, q1, q2, q3, q4, q5, q6, q7, q8, q9, q10, q11⟩ := twelve_atK zpr
        clear own SM SLw hB Bo HV HP htl CT
        go_wp2_with fail
        (with_reducible refine k1.mono ?_)
        rintro e w5 ⟨ua, rfl, SA, hb5⟩
        clear q0 q1 q2 q3 q4 q5 q6 q7 q8 q9 q10 q11 k1
        have zp5 := kept zpr hb5
        have SM5 := HSM.out.kept (fun b hb => hb5.block b hb.2)
        have k2 := S2.out _ w5 _ SM5 (fun b hb => Nat.lt_of_lt_of_le hb.2 hb5.size)
        obtain ⟨ax, ac, rfl⟩ := SA.slice
        have HSA := Lib.hid SA
        have HB5 := Lib.hid (HBo.out.trans (hb5.mono HBo.out.size))
        have HSL5 := Lib.hid (HSL.out.kept (fun b hb => hb5.block b (Nat.lt_trans hb lo)))
        have l5 : w.heap.size < w5.heap.size := Nat.lt_of_lt_of_le lo hb5.size
        obtain ⟨q0, q1, q2, q3, q4, q5, q6, q7, q8, q9, q10, q11⟩ := twelve_atK zp5
        clear SA SM5 zpr HSM HSL HBo hb5 S1 S2
        go_wp2_with fail
        (with_reducible refine k2.mono ?_)
        rintro e w6 ⟨ub, rfl, SB, hb6⟩
        clear q0 q1 q2 q3 q4 q5 q6 q7 q8 q9 q10 q11 k2
        obtain ⟨bx, bc, rfl⟩ := SB.slice
        have zp6 := kept zp5 hb6
        have z56 := hb6.size
        have HSB := Lib.hid SB
        have HB6 := Lib.hid (HB5.out.trans (hb6.mono HB5.out.size))
        have HSA6 := Lib.hid (HSA.out.kept (fun b hb => hb6.block b hb.2))
        have HSL6 := Lib.hid (HSL5.out.kept (fun b hb => hb6.block b (Nat.lt_trans hb l5)))
        have HZ := Lib.hid zp6
        have l6 : w.heap.size < w6.heap.size := Nat.lt_of_lt_of_le l5 z56
        clear SB zp5 zp6 hb6 HSA HSL5 HB5
        have hsl := sortP_length m l.length
        rw [hsl]
        rw [hsl] at HSA6 HSB
        go_wp2_with fail
        go_loopw [11] (fun i wr => ∃ n : Nat, n ≤ l.length ∧ i = .int .i64 (n : Int) ∧ Below w6.heap.size w6 wr) (fun i _ => l.length - (intOf i).toNat)
        case atStart => exact ⟨0, Nat.zero_le _, rfl, Below.refl _ _⟩
        case round =>
          obtain ⟨n, hn, rfl, hB⟩ := hrel
          have z7 := hB.size
          by_cases hlt : n < l.length
          · have i1 : (n : Int) < l.length := by omega
            have i0' : (0 : Int) ≤ (n : Int) := by omega
            obtain ⟨y, hy⟩ : ∃ y, (sortP m l.length)[n]? = some y := ⟨_, List.getElem?_eq_getElem (by rw [hsl]; exact hlt)⟩
            have hyl : y < l.length := (sortP_mem m l.length y).1 (List.mem_of_getElem? hy)
            rcases HSA6.out with ⟨_, _, _, _, hnil⟩ | ⟨ba, oa, _, hva, hFa, ca⟩
            · rw [hnil] at hy
              simp at hy
            rcases HSB.out with ⟨_, _, _, _, hnil⟩ | ⟨bb, ob, _, hvb, hFb, cb⟩
            · rw [hnil] at hy
              simp at hy
            have hax : ax = some ⟨ba, oa, none⟩ := (Value.slice.inj hva).1
            subst hax
            have hbx : bx = some ⟨bb, ob, none⟩ := (Value.slice.inj hvb).1
            subst hbx
            have la : ba < w6.heap.size := by have := hFa.2; omega
            have lb : bb < w6.heap.size := hFb.2
            have fa : ∀ i x : Nat, (sortP m l.length)[i]? = some x → wr.cell? ⟨ba, oa + i, none⟩ = some (.int .i64 (x : Int)) := fun i x hx => by
              rw [hB.cell la]
              have := ca i x hx 0 _ rfl
              simpa using this
            have fb : ∀ i x : Nat, (sortP m l.length)[i]? = some x → wr.cell? ⟨bb, ob + i, none⟩ = some (.int .i64 (x : Int)) := fun i x hx => by
              rw [hB.cell lb]
              have := cb i x hx 0 _ rfl
              simpa using this
            have fy := fa n y hy
            have gy := fb n y hy
            clear ca cb hva hvb hFa hFb
            rcases Nat.eq_zero_or_pos n with hz | hpos
            · have hBd := Lib.hid hB
              have hd : decide ((0 : Int) < (n : Int)) = false := decide_eq_false (by omega)
              have hd' : decide (0 < n) = false := decide_eq_false (by omega)
              clear fa fb hB hy hn hyl hlt h60' hsl hz
              go_wp2_with fail
              go_quiet (fail)
              have hBn := Lib.hid (below_drewN hBd.out nq)
              go_wp2_with fail
              go_roundw
              case rel => exact ⟨n + 1, by omega, by go_num, hBn.out⟩
              case measure => simp [intOf]; omega
            · obtain ⟨j, rfl⟩ : ∃ j, n = j + 1 := ⟨n - 1, by omega⟩
              obtain ⟨x, hx⟩ : ∃ x, (sortP m l.length)[j]? = some x := ⟨_, List.getElem?_eq_getElem (by rw [hsl]; omega)⟩
              have hxl : x < l.length := (sortP_mem m l.length x).1 (List.mem_of_getElem? hx)
              obtain ⟨s, hsx⟩ : ∃ s, l[x]? = some s := ⟨_, List.getElem?_eq_getElem hxl⟩
              obtain ⟨t, hsy⟩ : ∃ t, l[y]? = some t := ⟨_, List.getElem?_eq_getElem hyl⟩
              have cx := CM.out s (List.mem_of_getElem? hsx)
              have cy := CM.out t (List.mem_of_getElem? hsy)
              have hle := sortP_beside m l.length j hx hy
              rw [MN.out x s hsx, MN.out y t hsy] at hle
              have fx := fa j x hx
              have hgd : decide ((0 : Int) < ((j : Int) + 1)) = true := decide_eq_true (by omega)
              have hwr : IntKind.i64.wrap ((j : Int) + 1 - 1) = (j : Int) := by rw [IntKind.wrap_i64]; omega
              have hwr2 : IntKind.i64.wrap (j : Int) = (j : Int) := by rw [IntKind.wrap_i64]; omega
              have hlt' : decide (metI p t at_ < metI p s at_) = false := decide_eq_false (by omega)
              have x0' : (0 : Int) ≤ (x : Int) := by omega
              have y0' : (0 : Int) ≤ (y : Int) := by omega
              have x1' : (x : Int) < (l.length : Int) := by omega
              have y1' : (y : Int) < (l.length : Int) := by omega
              have j0' : (0 : Int) ≤ (j : Int) := by omega
              have j1' : (j : Int) < (l.length : Int) := by omega
              rcases HSL6.out with ⟨_, _, _, _, hnil⟩ | ⟨b, off, cap', hvv, hbF, hcs⟩
              · rw [hnil] at hlt
                simp at hlt
              have hsxx : sx = some ⟨b, off, none⟩ := (Value.slice.inj hvv).1
              subst hsxx
              have kw : ∀ q u, w6.cell? ⟨b, q, none⟩ = some u → wr.cell? ⟨b, q, none⟩ = some u := fun q u h => by
                rw [hB.cell (Nat.lt_trans hbF l6)]
                exact h
              have zpr := kept HZ.out hB
              obtain ⟨x0, x1, x2, x3, x4, x5, x6, x7, x8, x9, x10⟩ := sv_at (w := wr) (b := b) (q := off + x * 11) (s := s) (fun j' u hu => kw _ _ (hcs x s hsx j' u hu))
              obtain ⟨y0, y1, y2, y3, y4, y5, y6, y7, y8, y9, y10⟩ := sv_at (w := wr) (b := b) (q := off + y * 11) (s := t) (fun j' u hu => kw _ _ (hcs y t hsy j' u hu))
              obtain ⟨q0, q1, q2, q3, q4, q5, q6, q7, q8, q9, q10, q11⟩ := twelve_atK zpr
              have r0 := cell_regrown x0
              have r1 := cell_regrown x1
              have r2 := cell_regrown x2
              have r3 := cell_regrown x3
              have r4 := cell_regrown x4
              have r5 := cell_regrown x5
              have r6 := cell_regrown x6
              have r7 := cell_regrown x7
              have r8 := cell_regrown x8
              have r9 := cell_regrown x9
              have r10 := cell_regrown x10
              have r11 := cell_regrown y0
              have r12 := cell_regrown y1
              have r13 := cell_regrown y2
              have r14 := cell_regrown y3
              have r15 := cell_regrown y4
              have r16 := cell_regrown y5
              have r17 := cell_regrown y6
              have r18 := cell_regrown y7
              have r19 := cell_regrown y8
              have r20 := cell_regrown y9
              have r21 := cell_regrown y10
              have r22 := cell_regrown q0
              have r23 := cell_regrown q1
              have r24 := cell_regrown q2
              have r25 := cell_regrown q3
              have r26 := cell_regrown q4
              have r27 := cell_regrown q5
              have r28 := cell_regrown q6
              have r29 := cell_regrown q7
              have r30 := cell_regrown q8
              have r31 := cell_regrown q9
              have r32 := cell_regrown q10
              have r33 := cell_regrown q11
              have r34 := cell_regrown fx
              have r35 := cell_regrown fy
              have r36 := cell_regrown gy
              have d0 := fun d os => Calls.regrown_of (cx (grow (redrawn wr d) os))
              have d1 := fun d os => Calls.regrown_of (cy (grow (redrawn wr d) os))
              have BB := Lib.hid hB
              clear x0 x1 x2 x3 x4 x5 x6 x7 x8 x9 x10 y0 y1 y2 y3 y4 y5 y6 y7 y8 y9 y10 q0 q1 q2 q3 q4 q5 q6 q7 q8 q9 q10 q11 fx fy gy cx cy kw hcs zpr hvv hle hxl hyl hx hy hsx hsy fa fb hlt hn h60' hsl hpos hbF hB
              generalize metI p s at_ = ms at *
              generalize metI p t at_ = mt at *
              have i1'' : (j : Int) + 1 < (l.length : Int) := by omega
              have i0'' : (0 : Int) ≤ (j : Int) + 1 := by omega
              have itn : ((j : Int) + 1).toNat = j + 1 := by omega
              go_upto_region 15 with fail
              refine wp_region_quiet_below (by kernel_rfl) (by kernel_rfl) ?_
              repeat (quiet_step (first | (with_reducible exact d0 _ _) | (with_reducible exact d1 _ _)))
              refine wpQuiet_nil ?_
              intro w7 hw
              replace hw := below_again hw
              clear d0 d1 r0 r1 r2 r3 r4 r5 r6 r7 r8 r9 r10 r11 r12 r13 r14 r15 r16 r17 r18 r19 r20 r21 r22 r23 r24 r25 r26 r27 r28 r29 r30 r31 r32 r33 r34 r35 r36
              have HB7 := Lib.hid (BB.out.trans (hw.mono z7))
              clear hw
              go_wp2_with fail
              go_roundw
              case rel => exact ⟨j + 1 + 1, by omega, by go_num, HB7.out⟩
              case measure => simp [intOf]; omega
          · have enl : n = l.length := by omega
            subst enl
            have HB7 := Lib.hid (HB6.out.trans (hB.mono HB6.out.size))
            clear hB
            go_wp2_with fail
            go_ret
            exact ⟨rfl, HB7.out⟩
set_option maxRecDepth 100000 in
theorem lifted (os : Os) (started : os.Started) (H : Type) (enc : TypeId × Value → H) :
    ReturnsInHanded {} Tryz.checked os 4 .any (Rows.rootdSortsSpec.pre6 enc Tryz.prog Tryz.f4 Rows.rootdSortsRow.domain false) (Rows.rootdSortsSpec.post enc Tryz.prog Tryz.f4 false true false false) := by
  refine returnsInHanded_of_change (C := Tryz.checked) own started (by kernel_rfl) Tryz.func4
    (ChangeSpec.witness6 (enc := enc) (C := Tryz.checked) false ⟨#[], #[.agg #[.int .i64 0, .int .i64 0, .int .i64 0, .int .i64 0, .int .i64 0, .int .i64 0, .int .i64 0, .int .i64 0, .int .i64 0, .int .i64 0, .int .i64 0, .int .i64 0], .slice none 0 0, .int .i64 0], []⟩ 8 (by kernel_rfl) (by kernel_rfl) (by kernel_rfl) (by kernel_rfl)) ?_
  intro W base args ds gs before hval0 hW hcnd _
  have hval : ∀ (j : Nat) t v, Tryz.f4.params[j]? = some t → args[j]? = some v → Value.okWide Tryz.prog W .any base t v := hval0
  have hW' := hW
  obtain ⟨p, q, hA0, hV, rfl, hfz, hnd⟩ := hW
  have hA : DataW.TrodAll enc Tryz.prog W 0 (fun _ => true) true Tryz.f4.params.toList args.toList ds p := hA0
  rw [Tryz.params4] at hA hval
  obtain ⟨v0, vs0, d0, ds0, p0, q0, hargs, rfl, rfl, h0, r0⟩ := trodAll_cons hA
  obtain ⟨v1, vs1, d1, ds1, p1, q1, rfl, rfl, rfl, h1, r1⟩ := trodAll_cons r0
  obtain ⟨v2, vs2, d2, ds2, p2, q2, rfl, rfl, rfl, h2, r2⟩ := trodAll_cons r1
  obtain ⟨rfl, rfl, rfl⟩ := trodAll_nil r2
  obtain rfl : args = #[v0, v1, v2] := by cases args; simp_all
  obtain ⟨rfl, rfl⟩ := trodVars_none hV
  have k0 := h0
  have lt0 : ∀ x ∈ p0, x.block < W.heap.size := by obtain ⟨m, hm⟩ := k0; exact DataW.trod_lt m _ _ _ hm
  obtain ⟨a0, rfl, w0⟩ := open_pm (hval 0 23 v0 rfl rfl) h0
  have k1 := h1
  have lt1 : ∀ x ∈ p1, x.block < W.heap.size := by obtain ⟨m, hm⟩ := k1; exact DataW.trod_lt m _ _ _ hm
  obtain ⟨a1, len1, cap1, rfl⟩ := okWide_slice Tryz.underlying45 (hval 1 45 v1 rfl rfl)
  obtain ⟨z1, w1a, w1b, w1c⟩ : ∃ l : List Sv, SlAt (fun b => b < W.heap.size) 11 svC W (.slice a1 len1 cap1) l ∧ (∀ f ∈ l, Sv.Typed f) ∧ l.length ≤ maxLen := by
    obtain ⟨fuel, hf⟩ := h1
    obtain ⟨v, l, hcs, h1, h2, h3⟩ := open_srvs hf
    simp [Value.cells] at hcs
    subst hcs
    exact ⟨l, h1, h2, h3⟩
  obtain ⟨a2, rfl, rfl, rfl, w2⟩ := open_int Tryz.underlying2 (hval 2 2 v2 rfl rfl) h2
  clear hA0 hval0
  refine (walk a0 (.slice a1 len1 cap1) z1 a2 W w0 w1a w1b w1c w2).mono fun e W' ⟨he, bel⟩ => ?_
  subst he
  exact ⟨_, rfl, _, _, _, [], _, [], hW', trodAll_mk1 (shut_bool Tryz.underlying4 _), (trodAll_cons_mk (Below.trod laidOut (by kernel_rfl) (of_decide_eq_true (by kernel_rfl)) k0 bel lt0) (trodAll_cons_mk (Below.trod laidOut (by kernel_rfl) (of_decide_eq_true (by kernel_rfl)) k1 bel lt1) (trodAll_cons_mk (shut_int Tryz.underlying2 w2) trodAll_mk0))), rfl, bel.frame _, fun h => by cases h⟩

theorem over : Rows.rootdSortsRow.holds Tryz.pinned (OpenSpec.ofChange Rows.rootdSortsSpec) :=
  OpenClaim.holds_of_wide 4 Tryz.f4 rfl rfl rfl rfl rfl rfl rfl ⟨rfl, rfl, rfl, rfl, rfl⟩ rfl rfl rfl rfl rfl (by kernel_rfl) Tryz.func4 (by kernel_rfl)
    (of_decide_eq_true (by kernel_rfl)) (by unfold Func.isWrapper; first | (rw [if_pos (by decide +kernel)]; kernel_rfl) | (rw [if_neg (by decide +kernel)]; exact ⟨rfl, rfl⟩))
    (fun os started H enc _ => lifted os started H enc)

theorem proved : Rows.RootdSortsSaid := over
end Go.Proofs.YtkjecjehphgpjaaGreat.RootdSorts
