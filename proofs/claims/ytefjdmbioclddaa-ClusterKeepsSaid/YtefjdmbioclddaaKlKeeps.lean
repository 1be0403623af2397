/- ClusterKeeps: no fewer are kept than are asked for, if there were as many; they are spread no further than all were. No further condition. -/
import Derived.Test.YtefjdmbioclddaaCnZ
import Derived.WalkKit
import Derived.WalkSpells
import Derived.WalkLawsBesides
import Derived.Lib.Hide
import Derived.Handy
import Derived.ProofKit
import Derived.OpenShut
import Derived.ShutString
import Derived.ChangeOld
import Derived.Below
namespace Go.Proofs.Ytefjdmbioclddaa.ClusterKeeps
open Go.RowKit Go.Sort Go.Proofs.Ytefjdmbioclddaa.W
open Go.ChangeShapes Go.WideShapes Go.ChangeAt
open Go.ChangeMaps (open_string shut_string)
set_option linter.unusedVariables false
set_option linter.unusedSimpArgs false
theorem own : ownKnob Try.prog.godebug = none := by kernel_rfl
theorem laidOut : laidOutB Try.prog = true := by kernel_rfl
set_option maxRecDepth 100000 in
set_option maxHeartbeats 12800000 in
theorem walk (v : Value) (l : List Nd) (least : Int) (w : World) (hv : SlAt (fun b => b < w.heap.size) 3 ndC w v l) (tl : ∀ c ∈ l, c.Typed) (hl : l.length ≤ maxLen) (wk : (Lit.int .u8 least).wf = true) :
    Calls Try.prog 4 #[v, .int .u8 least] w fun e w' => e = .returned (.bool true) ∧ Below w.heap.size w w' := by
  have hm : l.length ≤ 9223372036854775807 := by unfold maxLen at hl; omega
  have k0 := bounds_u8 wk
  obtain ⟨kn, rfl⟩ : ∃ kn : Nat, least = (kn : Int) := ⟨least.toNat, by omega⟩
  have cs := shown17_any
  have HV := Lib.hid hv
  obtain ⟨sx, sc, rfl⟩ := hv.slice
  clear hv wk hl
  by_cases h30 : 30 < l.length
  · have i30 : (30 : Int) < l.length := by omega
    clear HV tl
    go_enter Try.func4, Try.ntmps4
    go_wp2_with fail
    (with_reducible refine (cs _).mono ?_)
    rintro e w1 ⟨rfl, B1⟩
    go_wp2_with fail
    go_ret
    exact ⟨rfl, B1⟩
  have i30 : ¬ (30 : Int) < l.length := by omega
  obtain ⟨i0, hi0, hz0, hz1, hz2⟩ := info_parts info_nd
  obtain ⟨n, hn⟩ : ∃ n, kn % 12 = n := ⟨_, rfl⟩
  have hn12 : n ≤ 11 := by omega
  have hrem : Int.tmod (kn : Int) 12 = (n : Int) := by rw [← hn]; rfl
  have hwk : IntKind.i64.wrap (kn : Int) = (kn : Int) := by rw [IntKind.wrap_i64]; omega
  have hwn : IntKind.i64.wrap (n : Int) = (n : Int) := by rw [IntKind.wrap_i64]; omega
  obtain ⟨p1, p2, p3, p4, p5, p6⟩ := prune_is l (n : Int)
  have KP := Lib.hid (fun W (hB : Below w.heap.size w W) => cprn_any l tl (by omega) (n : Int) (by omega) W (HV.out.kept hB.block) (fun b hb => Nat.lt_of_lt_of_le hb hB.size))
  have KS := Lib.hid (fun W (hB : Below w.heap.size w W) => csprd_any l tl (by omega) W (HV.out.kept hB.block) (fun b hb => Nat.lt_of_lt_of_le hb hB.size))
  generalize (prune l (n : Int)).2 = far at *
  generalize (prune l (n : Int)).1 = P at *
  have mem := now_mem p2
  have hsp := spread_kept mem
  have hw1 : P.length ≤ 1 → far = 0 := fun h => by rw [p5]; exact worst_one (by rw [now_length]; exact h)
  have hup : ∀ i x y, P[i]? = some x → P[i + 1]? = some y → x < y := fun i x y ha hb => by
    obtain ⟨h1, rfl⟩ := List.getElem?_eq_some_iff.1 ha
    obtain ⟨h2, rfl⟩ := List.getElem?_eq_some_iff.1 hb
    exact List.pairwise_iff_getElem.1 p1 i (i + 1) h1 h2 (by omega)
  have hin : ∀ x ∈ P, ∃ c, l[x]? = some c := fun x hx => ⟨_, List.getElem?_eq_getElem (p2 x hx)⟩
  have tK : ∀ c ∈ nowL l P, c.Typed := fun c hc => tl c (mem c hc)
  obtain ⟨mx, hmx⟩ : ∃ mx : Int, max (n : Int) 1 = mx := ⟨_, rfl⟩
  obtain ⟨mn, hmn⟩ : ∃ mn : Int, min (l.length : Int) mx = mn := ⟨_, rfl⟩
  have r1 := fun ts t W => run_max17 (n : Int) 1 mx hmx ts t W
  have r2 := fun ts t W => run_min17 (l.length : Int) mx mn hmn ts t W
  have n1 : ¬ (P.length : Int) < mn := by omega
  have n2 : ¬ (l.length : Int) < (P.length : Int) := by omega
  have n1d : decide ((P.length : Int) < mn) = false := decide_eq_false n1
  have n2d : decide ((l.length : Int) < (P.length : Int)) = false := decide_eq_false n2
  have n2e : decide (l.length < P.length) = false := decide_eq_false (by omega)
  have TK := Lib.hid (And.intro tK (And.intro p5 (And.intro hsp (And.intro hw1 p6))))
  have UP := Lib.hid (And.intro hup hin)
  clear hn tl p1 p2 p3 p5 p6 mem hsp hw1 hup hin tK hmx hmn
  go_enter Try.func4, Try.ntmps4
  go_wp2_with fail
  (with_reducible refine (cs _).mono ?_)
  rintro e w1 ⟨rfl, B1⟩
  have kp := KP.out _ B1
  go_wp2_with fail
  (with_reducible refine kp.mono ?_)
  rintro e w2 ⟨u, rfl, hu, hb2⟩
  have B2 := B1.trans (hb2.mono B1.size)
  have HU := Lib.hid hu
  obtain ⟨ux, uc, rfl⟩ := hu.slice
  have BW2 := Lib.hid B2
  have l2 := B2.size
  have ownS := ownsRow_fresh w2 40 3 w2.heap.size (Nat.le_refl _)
  have bS := (Below.refl w2.heap.size w2).alloc (Nat.le_refl _) (.cells #[] 40)
  clear B2 hb2 hu kp B1 KP
  go_wp2_with fail
  go_loopw [8, 9] (fun o i wr => ∃ q : Nat, q ≤ P.length ∧ i = .int .i64 (q : Int) ∧ wr.ownsRow w2.heap.size 40 3 o (nowL l (P.take q)).length ((nowL l (P.take q)).flatMap ndC) ∧ Below w2.heap.size w2 wr) (fun _ i _ => P.length - (intOf i).toNat)
  case atStart => exact ⟨0, Nat.zero_le _, rfl, ownS, bS⟩
  case round =>
    obtain ⟨q, hq, rfl, own, hB⟩ := hrel
    clear ownS bS
    have z1 := hB.size
    have hrl : (nowL l (P.take q)).length = q := by rw [now_length, List.length_take]; omega
    have OL := Lib.hid own
    rw [hrl] at own
    by_cases hlt : q < P.length
    · obtain ⟨x, hx⟩ : ∃ x, P[q]? = some x := ⟨_, List.getElem?_eq_getElem hlt⟩
      obtain ⟨c, hc⟩ := UP.out.2 x (List.mem_of_getElem? hx)
      have hxl : x < l.length := (List.getElem?_eq_some_iff.1 hc).1
      have i1 : (q : Int) < P.length := by omega
      have i0' : (0 : Int) ≤ (q : Int) := by omega
      obtain ⟨bu, ou, rfl⟩ := pl_some HU.out hx
      obtain ⟨c1, f1⟩ := pl_cell HU.out hx
      have fx : wr.cell? ⟨bu, ou + q, none⟩ = some (.int .i64 (x : Int)) := by rw [hB.cell f1.2]; exact c1
      rcases HV.out with ⟨_, _, _, _, hnil⟩ | ⟨bl, ol, cl, hvl, hFl, cl'⟩
      · rw [hnil] at hxl
        simp at hxl
      have hlx := (Value.slice.inj hvl).1
      subst hlx
      have x3 := nd_at (w := wr) (b := bl) (q := ol + x * 3) (c := c) (fun j u hu => by
        rw [hB.cell (Nat.lt_of_lt_of_le hFl l2), BW2.out.cell hFl]
        exact cl' x c hc j u hu)
      have hst : nowL l (P.take (q + 1)) = nowL l (P.take q) ++ [c] := by
        obtain ⟨h1, rfl⟩ := List.getElem?_eq_some_iff.1 hx
        rw [List.take_succ_eq_append_getElem h1]
        unfold nowL
        rw [List.map_append]
        simp [List.getD, hc]
      have e1 : decide ((x : Int) < 0) = false := decide_eq_false (by omega)
      have e2 : decide ((l.length : Int) ≤ (x : Int)) = false := decide_eq_false (by omega)
      have e2n : decide (l.length ≤ x) = false := decide_eq_false (by omega)
      have xx0 : (0 : Int) ≤ (x : Int) := by omega
      have xx1 : (x : Int) < (l.length : Int) := by omega
      have KK := Lib.hid (And.intro hst (And.intro own hB))
      have X3 := Lib.hid x3
      have fu : ∀ i y : Nat, P[i]? = some y → wr.cell? ⟨bu, ou + i, none⟩ = some (.int .i64 (y : Int)) := fun i y hy => by
        obtain ⟨c1, f1⟩ := pl_cell HU.out hy
        rw [hB.cell f1.2]
        exact c1
      have hyx := fun j y (hj : q = j + 1) (hy : P[j]? = some y) => UP.out.1 j y x hy (by rw [← hj]; exact hx)
      clear hst own hB cl' hvl hFl c1 f1 hc hxl hrl OL x3
      rcases Nat.eq_zero_or_pos q with hz | hpos
      · have hd : decide ((0 : Int) < (q : Int)) = false := decide_eq_false (by omega)
        have hd' : decide (0 < q) = false := decide_eq_false (by omega)
        clear fu hx hz hyx
        go_wp2_with fail
        go_quiet (fail)
        obtain ⟨hst, own, hB⟩ := KK.out
        have TK' := Lib.hid hst
        have hBd := below_drewN hB nq
        have own5 := own_kept15 own (w' := wr.drewN nq) (below_drewN (Below.refl _ _) nq)
        have z2 : w2.heap.size ≤ (wr.drewN nq).heap.size := z1
        obtain ⟨x0, x1, x2⟩ := X3.out
        have y0 : (wr.drewN nq).cell? ⟨bl, ol + x * 3, none⟩ = some (.int .i64 c.off) := x0
        have y1 : (wr.drewN nq).cell? ⟨bl, ol + x * 3 + 1, none⟩ = some (.int .i64 c.jit) := x1
        have y2 : (wr.drewN nq).cell? ⟨bl, ol + x * 3 + 2, none⟩ = some (.int .i64 c.met) := x2
        have fx5 : (wr.drewN nq).cell? ⟨bu, ou + q, none⟩ = some (.int .i64 (x : Int)) := fx
        clear hst own hB x0 x1 x2
        go_wp2_with (at_builtin; refine wpList_append_own _ rfl _ _ 22 rfl w2.heap.size 40 i0 _ 3 24 Try.underlying22 hi0 hz0 hz1 hz2 rfl (by decide) _ _ _ rfl (own5.alloc _) ⟨(wr.drewN nq).heap.size, 0, none⟩ 1 1 (ndC c) rfl rfl (nd_row _ c _) (ndC_one _) (by unfold maxLen; omega) (by omega) (by first | (rw [World.size_alloc]; omega) | (simp; omega)) ?_; intro v4 w4 hown4 hgrow4 _; have own4 : w4.ownsRow w2.heap.size 40 3 v4 (nowL l (P.take (q + 1))).length ((nowL l (P.take (q + 1))).flatMap ndC) := (by rw [TK'.out, List.flatMap_append, List.length_append, now_length, List.length_take, Nat.min_eq_left (by omega)]; simpa using hown4); have B4 := (hBd.alloc (by omega) (.cells (ndA c) 40)).grown hgrow4 (by first | (rw [World.size_alloc]; omega) | (simp; omega)) (fun g hg => by have := (own5.lt g hg).1; omega); have z4 := B4.size)
        go_roundw
        case rel => exact ⟨q + 1, by omega, by go_num, own4, B4⟩
        case measure => simp [intOf]; omega
      · obtain ⟨j, hj⟩ : ∃ j, q = j + 1 := ⟨q - 1, by omega⟩
        obtain ⟨y, hy⟩ : ∃ y, P[j]? = some y := ⟨_, List.getElem?_eq_getElem (by omega)⟩
        have hyx' := hyx j y hj hy
        have fy := fu j y hy
        have hgd : decide ((0 : Int) < (q : Int)) = true := decide_eq_true (by omega)
        have hgd' : decide (0 < q) = true := decide_eq_true hpos
        have hwr : IntKind.i64.wrap ((q : Int) - 1) = (j : Int) := by rw [IntKind.wrap_i64]; omega
        have e5 : decide ((x : Int) ≤ (y : Int)) = false := decide_eq_false (by omega)
        have e5n : decide (x ≤ y) = false := decide_eq_false (by omega)
        have j0' : (0 : Int) ≤ (j : Int) := by omega
        have j1' : (j : Int) < (P.length : Int) := by omega
        clear fu hx hy hyx hj hyx' hpos
        go_wp2_with fail
        go_quiet (fail)
        obtain ⟨hst, own, hB⟩ := KK.out
        have TK' := Lib.hid hst
        have hBd := below_drewN hB nq
        have own5 := own_kept15 own (w' := wr.drewN nq) (below_drewN (Below.refl _ _) nq)
        have z2 : w2.heap.size ≤ (wr.drewN nq).heap.size := z1
        obtain ⟨x0, x1, x2⟩ := X3.out
        have y0 : (wr.drewN nq).cell? ⟨bl, ol + x * 3, none⟩ = some (.int .i64 c.off) := x0
        have y1 : (wr.drewN nq).cell? ⟨bl, ol + x * 3 + 1, none⟩ = some (.int .i64 c.jit) := x1
        have y2 : (wr.drewN nq).cell? ⟨bl, ol + x * 3 + 2, none⟩ = some (.int .i64 c.met) := x2
        have fx5 : (wr.drewN nq).cell? ⟨bu, ou + q, none⟩ = some (.int .i64 (x : Int)) := fx
        clear hst own hB x0 x1 x2
        go_wp2_with (at_builtin; refine wpList_append_own _ rfl _ _ 22 rfl w2.heap.size 40 i0 _ 3 24 Try.underlying22 hi0 hz0 hz1 hz2 rfl (by decide) _ _ _ rfl (own5.alloc _) ⟨(wr.drewN nq).heap.size, 0, none⟩ 1 1 (ndC c) rfl rfl (nd_row _ c _) (ndC_one _) (by unfold maxLen; omega) (by omega) (by first | (rw [World.size_alloc]; omega) | (simp; omega)) ?_; intro v4 w4 hown4 hgrow4 _; have own4 : w4.ownsRow w2.heap.size 40 3 v4 (nowL l (P.take (q + 1))).length ((nowL l (P.take (q + 1))).flatMap ndC) := (by rw [TK'.out, List.flatMap_append, List.length_append, now_length, List.length_take, Nat.min_eq_left (by omega)]; simpa using hown4); have B4 := (hBd.alloc (by omega) (.cells (ndA c) 40)).grown hgrow4 (by first | (rw [World.size_alloc]; omega) | (simp; omega)) (fun g hg => by have := (own5.lt g hg).1; omega); have z4 := B4.size)
        go_roundw
        case rel => exact ⟨q + 1, by omega, by go_num, own4, B4⟩
        case measure => simp [intOf]; omega
    · have eq : q = P.length := by omega
      subst eq
      generalize wr = wo at *
      have hT := SlAt.own ndC_length OL.out
      obtain ⟨tx, tc, rfl⟩ := hT.slice
      rw [hrl] at hT ⊢
      rw [List.take_length] at hT
      have hnl := now_length l P
      obtain ⟨tK, p5, hsp, hw1, p6⟩ := TK.out
      have XW := fun W (h : Below wo.heap.size wo W) => cwst_any (nowL l P) tK (by rw [hnl]; omega) W (hT.kept (fun b hb => h.block b hb.2)) (fun b hb => Nat.lt_of_lt_of_le hb.2 h.size)
      have XS := fun W (h : Below wo.heap.size wo W) => csprd_any (nowL l P) tK (by rw [hnl]; omega) W (hT.kept (fun b hb => h.block b hb.2)) (fun b hb => Nat.lt_of_lt_of_le hb.2 h.size)
      rw [← p5] at XW
      generalize spreadI (nowL l P) = s1 at *
      generalize spreadI l = s2 at *
      generalize ((worstP (nowL l P)).1 : Int) = wi at *
      have HX := Lib.hid (And.intro XW XS)
      have BW := BW2.out.trans (hB.mono l2)
      have BR := Below.refl wo.heap.size wo
      have hlast : decide ((1 : Int) < (P.length : Int)) = true ∨ far = 0 := by
        by_cases h : 1 < P.length
        · exact .inl (decide_eq_true (by omega))
        · exact .inr (hw1 (by omega))
      clear XW XS hT own hB hrl OL p5 hw1 TK
      have kk := HX.out.1 _ BR
      go_wp2_with fail
      (with_reducible refine kk.mono ?_)
      rintro e w4 ⟨rfl, hb⟩
      replace BR := BR.trans (hb.mono BR.size)
      replace BW := BW.trans (hb.mono BW.size)
      clear hb kk
      have kk := HX.out.2 _ BR
      go_wp2_with fail
      (with_reducible refine kk.mono ?_)
      rintro e w5 ⟨rfl, hb⟩
      replace BW := BW.trans (hb.mono BW.size)
      clear hb kk BR
      have kk := KS.out _ BW
      go_wp2_with fail
      (with_reducible refine kk.mono ?_)
      rintro e w6 ⟨rfl, hb⟩
      have HB := Lib.hid (BW.trans (hb.mono BW.size))
      clear hb kk BW
      rcases hlast with hl1 | rfl
      · have hl1' : (1 : Int) < (P.length : Int) := of_decide_eq_true hl1
        clear hl1
        go_wp2_with fail
        go_ret
        exact ⟨by first | rfl | (simp; done) | (simp; omega), HB.out⟩
      · go_wp2_with fail
        all_goals go_ret
        all_goals exact ⟨by first | rfl | (simp; done) | (simp; omega), HB.out⟩
set_option maxRecDepth 100000 in
theorem lifted (os : Os) (started : os.Started) (H : Type) (enc : TypeId × Value → H) :
    ReturnsInHanded {} Try.checked os 4 .any (Rows.clusterKeepsSpec.pre6 enc Try.prog Try.f4 Rows.clusterKeepsRow.domain false) (Rows.clusterKeepsSpec.post enc Try.prog Try.f4 false true false false) := by
  refine returnsInHanded_of_change (C := Try.checked) own started (by kernel_rfl) Try.func4
    (ChangeSpec.witness6 (enc := enc) (C := Try.checked) false ⟨#[], #[.slice none 0 0, .int .u8 0], []⟩ 8 (by kernel_rfl) (by kernel_rfl) (by kernel_rfl) (by kernel_rfl)) ?_
  intro W base args ds gs before hval0 hW hcnd _
  have hval : ∀ (j : Nat) t v, Try.f4.params[j]? = some t → args[j]? = some v → Value.okWide Try.prog W .any base t v := hval0
  have hW' := hW
  obtain ⟨p, q, hA0, hV, rfl, hfz, hnd⟩ := hW
  have hA : DataW.TrodAll enc Try.prog W 0 (fun _ => true) true Try.f4.params.toList args.toList ds p := hA0
  rw [Try.params4] at hA hval
  obtain ⟨v0, vs0, d0, ds0, p0, q0, hargs, rfl, rfl, h0, r0⟩ := trodAll_cons hA
  obtain ⟨v1, vs1, d1, ds1, p1, q1, rfl, rfl, rfl, h1, r1⟩ := trodAll_cons r0
  obtain ⟨rfl, rfl, rfl⟩ := trodAll_nil r1
  obtain rfl : args = #[v0, v1] := by cases args; simp_all
  obtain ⟨rfl, rfl⟩ := trodVars_none hV
  have k0 := h0
  have lt0 : ∀ x ∈ p0, x.block < W.heap.size := by obtain ⟨m, hm⟩ := k0; exact DataW.trod_lt m _ _ _ hm
  obtain ⟨a0, len0, cap0, rfl⟩ := okWide_slice Try.underlying22 (hval 0 22 v0 rfl rfl)
  obtain ⟨z0, w0a, w0b, w0c⟩ : ∃ l : List Nd, SlAt (fun b => b < W.heap.size) 3 ndC W (.slice a0 len0 cap0) l ∧ (∀ f ∈ l, Nd.Typed f) ∧ l.length ≤ maxLen := by
    obtain ⟨fuel, hf⟩ := h0
    obtain ⟨v, l, hcs, h1, h2, h3⟩ := open_nds hf
    simp [Value.cells] at hcs
    subst hcs
    exact ⟨l, h1, h2, h3⟩
  obtain ⟨a1, rfl, rfl, rfl, w1⟩ := open_int Try.underlying5 (hval 1 5 v1 rfl rfl) h1
  clear hA0 hval0
  refine (walk (.slice a0 len0 cap0) z0 a1 W w0a w0b w0c w1).mono fun e W' ⟨he, bel⟩ => ?_
  subst he
  exact ⟨_, rfl, _, _, _, [], _, [], hW', trodAll_mk1 (shut_bool Try.underlying4 _), (trodAll_cons_mk (Below.trod laidOut (by kernel_rfl) (of_decide_eq_true (by kernel_rfl)) k0 bel lt0) (trodAll_cons_mk (shut_int Try.underlying5 w1) trodAll_mk0)), rfl, bel.frame _, fun h => by cases h⟩

theorem over : Rows.clusterKeepsRow.holds Try.pinned (OpenSpec.ofChange Rows.clusterKeepsSpec) :=
  OpenClaim.holds_of_wide 4 Try.f4 rfl rfl rfl rfl rfl rfl rfl ⟨rfl, rfl, rfl, rfl, rfl⟩ rfl rfl rfl rfl rfl (by kernel_rfl) Try.func4 (by kernel_rfl)
    (of_decide_eq_true (by kernel_rfl)) (by unfold Func.isWrapper; first | (rw [if_pos (by decide +kernel)]; kernel_rfl) | (rw [if_neg (by decide +kernel)]; exact ⟨rfl, rfl⟩))
    (fun os started H enc _ => lifted os started H enc)

theorem proved : Rows.ClusterKeepsSaid := over
end Go.Proofs.Ytefjdmbioclddaa.ClusterKeeps
