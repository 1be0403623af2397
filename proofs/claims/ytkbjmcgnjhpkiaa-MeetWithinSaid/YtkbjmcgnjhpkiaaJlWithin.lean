/- MeetWithin: what is told lies where enough spans are; where all meet lies within where most do; what is selected meets it. No further condition. -/
import Derived.Test.YtkbjmcgnjhpkiaaMtZ
import Derived.WalkKit
import Derived.WalkSpells
import Derived.WalkLawsBesides
import Derived.Lib.Hide
import Derived.Handy
import Derived.ProofKit
import Derived.OpenShut
import Derived.ShutString
import Derived.ChangeOld
import Derived.Below
namespace Go.Proofs.Ytkbjmcgnjhpkiaa.MeetWithin
open Go.RowKit Go.Sort Go.Proofs.Ytkbjmcgnjhpkiaa.W
open Go.ChangeShapes Go.WideShapes Go.ChangeAt
open Go.ChangeMaps (open_string shut_string)
set_option linter.unusedVariables false
set_option linter.unusedSimpArgs false
theorem own : ownKnob Try.prog.godebug = none := by kernel_rfl
theorem laidOut : laidOutB Try.prog = true := by kernel_rfl
theorem two_in16 {w : World} {b : Nat} {x y : Value} {t : TypeId} (h : w.heap[b]? = some (.cells #[x, y] t (0, 0))) : w.cell? ⟨b, 0, none⟩ = some x ∧ w.cell? ⟨b, 1, none⟩ = some y := by constructor <;> simp [World.cell?, h]
set_option maxRecDepth 100000 in
set_option maxHeartbeats 25600000 in
theorem walk (v : Value) (l : List Cd) (w : World) (hv : SlAt (fun b => b < w.heap.size) 3 cdC w v l) (tl : ∀ c ∈ l, c.Typed) (hl : l.length ≤ maxLen) (vx : Option Addr) (n0 vc : Nat) (hve : v = .slice vx n0 vc) (hcap : n0 ≤ vc ∧ vc ≤ maxLen) :
    Calls Try.prog 4 #[v] w fun e w' => e = .returned (.bool true) ∧ Below w.heap.size w w' := by
  have hm : l.length ≤ 9223372036854775807 := by unfold maxLen at hl; omega
  have cs := shown16_any
  have HV := Lib.hid hv
  obtain ⟨sx, sc, hve'⟩ := hv.slice
  obtain ⟨rfl, rfl, rfl⟩ : sx = vx ∧ l.length = n0 ∧ sc = vc := by rw [hve'] at hve; exact Value.slice.inj hve
  subst hve'
  have k1 := mchk_any l tl w hv (fun b hb => hb)
  by_cases hc : chkC l = 0
  · skip
    rw [hc] at k1
    have h10 : l.length ≤ 10 := by
      unfold chkC at hc
      split at hc
      · cases hc
      · rename_i g
        omega
    have hok : ∀ c ∈ l, c.Ok := by
      unfold chkC at hc
      split at hc
      · cases hc
      · rename_i g
        intro c hcm
        exact Classical.byContradiction fun hn => g (.inr ⟨c, hcm, hn⟩)
    have i10 : ¬ (10 : Int) < l.length := by omega
    have KD := Lib.hid (fun x x0 W (hB : Below w.heap.size w W) => mdep_any l tl hc x x0 W (HV.out.kept hB.block) (fun b hb => Nat.lt_of_lt_of_le hb hB.size))
    have KJ := Lib.hid (fun W (hB : Below w.heap.size w W) => mmaj_any l tl hc W (HV.out.kept hB.block) (fun b hb => Nat.lt_of_lt_of_le hb hB.size))
    have KM := Lib.hid (fun W (hB : Below w.heap.size w W) => mmeet_any l tl hc W (HV.out.kept hB.block) (fun b hb => Nat.lt_of_lt_of_le hb hB.size))
    have KS := Lib.hid (fun W (hB : Below w.heap.size w W) => msel_any l tl hc W (HV.out.kept hB.block) (fun b hb => Nat.lt_of_lt_of_le hb hB.size))
    cases hmj : majF l with
    | none =>
      have hmm : meetF l = none := by
        cases h : meetF l with
        | none => rfl
        | some r =>
          obtain ⟨⟨a, b⟩, k⟩ := r
          obtain ⟨c, d, h', _⟩ := meet_maj h
          rw [hmj] at h'
          cases h'
      have hsp : spanF l = none := by unfold spanF; rw [hmm]; exact hmj
      have hsL : selL l = [] := by unfold selL; rw [hsp]
      obtain ⟨P, hP0⟩ : ∃ P : List Nat, P = [] := ⟨_, rfl⟩
      rw [hmj] at KJ
      rw [hmm, show allowI l = 0 by unfold allowI; rw [hmm]] at KM
      rw [hsp, hsL, ← hP0] at KS
      clear hmj hmm hsp hsL
      have KM' : Hid (∀ W, Below w.heap.size w W → Calls Try.prog 16 #[.slice sx l.length sc] W fun e w' => e = .returned (.tuple #[.agg #[.int .i64 0, .int .i64 0], .int .i64 0, .bool false]) ∧ Below W.heap.size W w') := Lib.hid KM.out
      have KJ' : Hid (∀ W, Below w.heap.size w W → Calls Try.prog 14 #[.slice sx l.length sc] W fun e w' => e = .returned (.tuple #[.agg #[.int .i64 0, .int .i64 0], .bool false]) ∧ Below W.heap.size W w') := Lib.hid KJ.out
      have KS' : Hid (∀ W, Below w.heap.size w W → Calls Try.prog 15 #[.slice sx l.length sc] W fun e w' => ∃ u, e = .returned (.tuple #[.agg #[.int .i64 0, .int .i64 0], u, .bool false]) ∧ SlAt (fun b => W.heap.size ≤ b ∧ b < w'.heap.size) 1 plE w' u P ∧ Below W.heap.size W w') := Lib.hid KS.out
      clear KJ KM KS KD hok hc hv hve hcap hl tl
      go_enter Try.func4, Try.ntmps4
      go_wp2_with fail
      (with_reducible refine k1.mono ?_)
      rintro e w1 ⟨rfl, B1⟩
      clear k1
      go_wp2_with fail
      (with_reducible refine (cs _).mono ?_)
      rintro e w2 ⟨rfl, hb2⟩
      have B2 := B1.trans (hb2.mono B1.size)
      clear hb2 B1
      have km := KM'.out _ B2
      go_wp2_with fail
      (with_reducible refine (km).mono ?_)
      rintro e w3 ⟨rfl, hb3⟩
      have B3 := B2.trans (hb3.mono B2.size)
      clear hb3 B2
      have B4 := B3.alloc B3.size (.cells #[.int .i64 (0), .int .i64 (0)] 31)
      have hs := heap_alloc_new w3 (.cells #[.int .i64 (0), .int .i64 (0)] 31)
      go_upto_region 4 with fail
      generalize w3.alloc (.cells #[.int .i64 (0), .int .i64 (0)] 31) = w4 at *
      have kj := KJ'.out _ B4
      go_wp2_with fail
      (with_reducible refine (kj).mono ?_)
      rintro e w5 ⟨rfl, hb5⟩
      have B5 := B4.trans (hb5.mono B4.size)
      replace hs := kept hs hb5
      clear hb5 B4
      have B6 := B5.alloc B5.size (.cells #[.int .i64 (0), .int .i64 (0)] 31)
      have hm2 := heap_alloc_new w5 (.cells #[.int .i64 (0), .int .i64 (0)] 31)
      replace hs := laid (.cells #[.int .i64 (0), .int .i64 (0)] 31) hs
      go_upto_region 5 with fail
      generalize w5.alloc (.cells #[.int .i64 (0), .int .i64 (0)] 31) = w6 at *
      obtain ⟨s0, s1⟩ := two_in16 hs
      obtain ⟨m0, m1⟩ := two_in16 hm2
      have ks := KS'.out _ B6
      go_wp2_with fail
      (with_reducible refine ks.mono ?_)
      rintro e w7 ⟨u, rfl, hu, hb7⟩
      obtain ⟨ux, uc, rfl⟩ := hu.slice
      have BS := B6.trans (hb7.mono B6.size)
      have zz := BS.size
      replace hs := laid (.cells #[.int .i64 (0), .int .i64 (0)] 31) (kept hs hb7)
      have ht := heap_alloc_new w7 (.cells #[.int .i64 (0), .int .i64 (0)] 31)
      have hu := hu.kept (w' := w7.alloc (.cells #[.int .i64 (0), .int .i64 (0)] 31)) (fun blk hb => ((Below.refl _ _).alloc (Nat.le_refl _) (.cells #[.int .i64 (0), .int .i64 (0)] 31)).block blk hb.2)
      have BT := BS.alloc BS.size (.cells #[.int .i64 (0), .int .i64 (0)] 31)
      have hv := HV.out.kept BT.block
      have HU := Lib.hid hu
      have HVT := Lib.hid hv
      have HT := Lib.hid (And.intro ht hs)
      have lT := (Array.getElem?_eq_some_iff.1 ht).1
      have lS := (Array.getElem?_eq_some_iff.1 hs).1
      have HBT := Lib.hid BT
      have zw := BT.size
      clear hb7 BS zz hu hv hs ht hm2 s0 s1 m0 m1 ks B6 BT
      go_upto_region 10 with fail
      generalize w7.alloc (.cells #[.int .i64 (0), .int .i64 (0)] 31) = wt at *
      go_wp2_with fail
      go_loopw [11] (fun i wr => ∃ q : Nat, q ≤ P.length ∧ i = .int .i64 (q : Int) ∧ Below wt.heap.size wt wr) (fun i _ => P.length - (intOf i).toNat)
      case atStart => exact ⟨0, Nat.zero_le _, rfl, Below.refl _ _⟩
      case round =>
        obtain ⟨q, hq, rfl, hB⟩ := hrel
        have z7 := hB.size
        by_cases hlt : q < P.length
        · exact absurd hlt (by rw [hP0]; simp)
        · have eq : q = P.length := by omega
          subst eq
          obtain ⟨t0, t1⟩ := two_in16 (kept HT.out.1 hB)
          obtain ⟨s0, s1⟩ := two_in16 (kept HT.out.2 hB)
          have HB := Lib.hid (HBT.out.trans (hB.mono zw))
          clear hB
          go_wp2_with fail
          go_ret
          exact ⟨by first | rfl | simp, HB.out⟩
    | some r =>
      obtain ⟨c, d⟩ := r
      obtain ⟨hl0, g1, g2, g3, g4⟩ := maj_is hmj
      obtain ⟨htc, htd⟩ := maj_bounds tl hmj
      have f1 := most_need hl0 g1
      have f2 := most_need hl0 g2
      cases hmm : meetF l with
      | none =>
        have hsp : spanF l = some (c, d) := by unfold spanF; rw [hmm]; exact hmj
        have hsL : selL l = selP l (c, d) := by unfold selL; rw [hsp]
        have hin : ∀ x ∈ selP l (c, d), ∃ cd, l[x]? = some cd ∧ cd.lo ≤ d ∧ c ≤ cd.hi := fun x hx => sel_in hok hx
        have hup : ∀ i x y, (selP l (c, d))[i]? = some x → (selP l (c, d))[i + 1]? = some y → x < y := fun i x y h1 h2 => sel_beside h1 h2
        rw [hmj] at KJ
        rw [hmm, show allowI l = 0 by unfold allowI; rw [hmm]] at KM
        rw [hsp, hsL] at KS
        have hPl := sel_length l (c, d)
        generalize selP l (c, d) = P at *
        clear hmj hmm hsp hsL g1 g2 g4
        have KM' : Hid (∀ W, Below w.heap.size w W → Calls Try.prog 16 #[.slice sx l.length sc] W fun e w' => e = .returned (.tuple #[.agg #[.int .i64 0, .int .i64 0], .int .i64 0, .bool false]) ∧ Below W.heap.size W w') := Lib.hid KM.out
        have KJ' : Hid (∀ W, Below w.heap.size w W → Calls Try.prog 14 #[.slice sx l.length sc] W fun e w' => e = .returned (.tuple #[.agg #[.int .i64 c, .int .i64 d], .bool true]) ∧ Below W.heap.size W w') := Lib.hid KJ.out
        have KS' : Hid (∀ W, Below w.heap.size w W → Calls Try.prog 15 #[.slice sx l.length sc] W fun e w' => ∃ u, e = .returned (.tuple #[.agg #[.int .i64 c, .int .i64 d], u, .bool true]) ∧ SlAt (fun b => W.heap.size ≤ b ∧ b < w'.heap.size) 1 plE w' u P ∧ Below W.heap.size W w') := Lib.hid KS.out
        have kc := Lib.hid (KD.out c htc)
        have kdd := Lib.hid (KD.out d htd)
        have lc := dep_le l c
        have ld := dep_le l d
        have w3r : IntKind.i64.wrap (2 * (depN l c : Int)) = 2 * (depN l c : Int) := by rw [IntKind.wrap_i64]; omega
        have w4r : IntKind.i64.wrap (2 * (depN l d : Int)) = 2 * (depN l d : Int) := by rw [IntKind.wrap_i64]; omega
        have n7 : ¬ 2 * (depN l c : Int) ≤ (l.length : Int) := by omega
        have n8 : ¬ 2 * (depN l d : Int) ≤ (l.length : Int) := by omega
        have n9 : ¬ d < c := by omega
        generalize depN l c = dc at *
        generalize depN l d = dd at *
        clear KJ KM KS KD hok hc hv hve hcap hl tl
        go_enter Try.func4, Try.ntmps4
        go_wp2_with fail
        (with_reducible refine k1.mono ?_)
        rintro e w1 ⟨rfl, B1⟩
        clear k1
        go_wp2_with fail
        (with_reducible refine (cs _).mono ?_)
        rintro e w2 ⟨rfl, hb2⟩
        have B2 := B1.trans (hb2.mono B1.size)
        clear hb2 B1
        have km := KM'.out _ B2
        go_wp2_with fail
        (with_reducible refine (km).mono ?_)
        rintro e w3 ⟨rfl, hb3⟩
        have B3 := B2.trans (hb3.mono B2.size)
        clear hb3 B2
        have B4 := B3.alloc B3.size (.cells #[.int .i64 (0), .int .i64 (0)] 31)
        have hs := heap_alloc_new w3 (.cells #[.int .i64 (0), .int .i64 (0)] 31)
        go_upto_region 4 with fail
        generalize w3.alloc (.cells #[.int .i64 (0), .int .i64 (0)] 31) = w4 at *
        have kj := KJ'.out _ B4
        go_wp2_with fail
        (with_reducible refine (kj).mono ?_)
        rintro e w5 ⟨rfl, hb5⟩
        have B5 := B4.trans (hb5.mono B4.size)
        replace hs := kept hs hb5
        clear hb5 B4
        have B6 := B5.alloc B5.size (.cells #[.int .i64 (c), .int .i64 (d)] 31)
        have hm2 := heap_alloc_new w5 (.cells #[.int .i64 (c), .int .i64 (d)] 31)
        replace hs := laid (.cells #[.int .i64 (c), .int .i64 (d)] 31) hs
        go_upto_region 5 with fail
        generalize w5.alloc (.cells #[.int .i64 (c), .int .i64 (d)] 31) = w6 at *
        obtain ⟨s0, s1⟩ := two_in16 hs
        obtain ⟨m0, m1⟩ := two_in16 hm2
        have kk := kc.out _ B6
        go_wp2_with fail
        (with_reducible refine (kk).mono ?_)
        rintro e w7 ⟨rfl, hb7⟩
        have B7 := B6.trans (hb7.mono B6.size)
        replace hs := kept hs hb7
        replace hm2 := kept hm2 hb7
        clear hb7 B6
        clear s0 s1 m0 m1
        obtain ⟨s0, s1⟩ := two_in16 hs
        obtain ⟨m0, m1⟩ := two_in16 hm2
        have kk := kdd.out _ B7
        go_wp2_with fail
        (with_reducible refine (kk).mono ?_)
        rintro e w8 ⟨rfl, hb8⟩
        have B8 := B7.trans (hb8.mono B7.size)
        replace hs := kept hs hb8
        replace hm2 := kept hm2 hb8
        clear hb8 B7
        clear s0 s1 m0 m1
        obtain ⟨s0, s1⟩ := two_in16 hs
        obtain ⟨m0, m1⟩ := two_in16 hm2
        have ks := KS'.out _ B8
        go_wp2_with fail
        (with_reducible refine ks.mono ?_)
        rintro e w9 ⟨u, rfl, hu, hb9⟩
        obtain ⟨ux, uc, rfl⟩ := hu.slice
        have BS := B8.trans (hb9.mono B8.size)
        have zz := BS.size
        replace hs := laid (.cells #[.int .i64 (c), .int .i64 (d)] 31) (kept hs hb9)
        have ht := heap_alloc_new w9 (.cells #[.int .i64 (c), .int .i64 (d)] 31)
        have hu := hu.kept (w' := w9.alloc (.cells #[.int .i64 (c), .int .i64 (d)] 31)) (fun blk hb => ((Below.refl _ _).alloc (Nat.le_refl _) (.cells #[.int .i64 (c), .int .i64 (d)] 31)).block blk hb.2)
        have BT := BS.alloc BS.size (.cells #[.int .i64 (c), .int .i64 (d)] 31)
        have hv := HV.out.kept BT.block
        have HU := Lib.hid hu
        have HVT := Lib.hid hv
        have HT := Lib.hid (And.intro ht hs)
        have lT := (Array.getElem?_eq_some_iff.1 ht).1
        have lS := (Array.getElem?_eq_some_iff.1 hs).1
        have HBT := Lib.hid BT
        have zw := BT.size
        clear hb9 BS zz hu hv hs ht hm2 s0 s1 m0 m1 ks B8 BT
        go_upto_region 10 with fail
        generalize w9.alloc (.cells #[.int .i64 (c), .int .i64 (d)] 31) = wt at *
        go_wp2_with fail
        go_loopw [11] (fun i wr => ∃ q : Nat, q ≤ P.length ∧ i = .int .i64 (q : Int) ∧ Below wt.heap.size wt wr) (fun i _ => P.length - (intOf i).toNat)
        case atStart => exact ⟨0, Nat.zero_le _, rfl, Below.refl _ _⟩
        case round =>
          obtain ⟨q, hq, rfl, hB⟩ := hrel
          have z7 := hB.size
          by_cases hlt : q < P.length
          · obtain ⟨x, hx⟩ : ∃ x, P[q]? = some x := ⟨_, List.getElem?_eq_getElem hlt⟩
            obtain ⟨cd, hcd, hc1, hc2⟩ := hin x (List.mem_of_getElem? hx)
            have hxl : x < l.length := (List.getElem?_eq_some_iff.1 hcd).1
            have i1 : (q : Int) < P.length := by omega
            have i0' : (0 : Int) ≤ (q : Int) := by omega
            rcases HU.out with ⟨_, _, _, _, hnil⟩ | ⟨bu, ou, cu, hvu, hFu, cu'⟩
            · rw [hnil] at hx
              simp at hx
            have hux := (Value.slice.inj hvu).1
            subst hux
            rcases HVT.out with ⟨_, _, _, _, hnil⟩ | ⟨bl, ol, cl, hvl, hFl, cl'⟩
            · rw [hnil] at hcd
              simp at hcd
            have hlx := (Value.slice.inj hvl).1
            subst hlx
            have fu : ∀ i y : Nat, P[i]? = some y → wr.cell? ⟨bu, ou + i, none⟩ = some (.int .i64 (y : Int)) := fun i y hy => by
              rw [hB.cell (Nat.lt_trans hFu.2 (by omega))]
              have := cu' i y hy 0 _ rfl
              simpa using this
            obtain ⟨x0, x1, x2⟩ := cd_at (w := wr) (b := bl) (q := ol + x * 3) (c := cd) (fun j u hu => by
              rw [hB.cell (Nat.lt_of_lt_of_le hFl zw)]
              exact cl' x cd hcd j u hu)
            obtain ⟨t0, t1⟩ := two_in16 (kept HT.out.1 hB)
            have fx := fu q x hx
            have e1 : decide ((x : Int) < 0) = false := decide_eq_false (by omega)
            have e2 : decide ((l.length : Int) ≤ (x : Int)) = false := decide_eq_false (by omega)
            have e2n : decide (l.length ≤ x) = false := decide_eq_false (by omega)
            have e3 : decide (d < cd.lo) = false := decide_eq_false (by omega)
            have e4 : decide (cd.hi < c) = false := decide_eq_false (by omega)
            have xx0 : (0 : Int) ≤ (x : Int) := by omega
            have xx1 : (x : Int) < (l.length : Int) := by omega
            have HB := Lib.hid hB
            clear cu' cl' hvu hvl hFu hFl hB x1 hcd hc1 hc2
            rcases Nat.eq_zero_or_pos q with hz | hpos
            · have hd : decide ((0 : Int) < (q : Int)) = false := decide_eq_false (by omega)
              have hd' : decide (0 < q) = false := decide_eq_false (by omega)
              clear fu hx hz hxl hlt hq
              go_wp2_with fail
              go_quiet (fail)
              have hBn := Lib.hid (below_drewN HB.out nq)
              go_wp2_with fail
              go_roundw
              case rel => exact ⟨q + 1, by omega, by go_num, hBn.out⟩
              case measure => simp [intOf]; omega
            · obtain ⟨j, rfl⟩ : ∃ j, q = j + 1 := ⟨q - 1, by omega⟩
              obtain ⟨y, hy⟩ : ∃ y, P[j]? = some y := ⟨_, List.getElem?_eq_getElem (by omega)⟩
              have hyx := hup j y x hy hx
              have fy := fu j y hy
              have hgd : decide ((0 : Int) < ((j : Int) + 1)) = true := decide_eq_true (by omega)
              have hwr : IntKind.i64.wrap ((j : Int) + 1 - 1) = (j : Int) := by rw [IntKind.wrap_i64]; omega
              have hwr2 : IntKind.i64.wrap (j : Int) = (j : Int) := by rw [IntKind.wrap_i64]; omega
              have e5 : decide ((x : Int) ≤ (y : Int)) = false := decide_eq_false (by omega)
              have e5n : decide (x ≤ y) = false := decide_eq_false (by omega)
              have j0' : (0 : Int) ≤ (j : Int) := by omega
              have j1' : (j : Int) < (P.length : Int) := by omega
              have i1'' : (j : Int) + 1 < (P.length : Int) := by omega
              have i0'' : (0 : Int) ≤ (j : Int) + 1 := by omega
              have itn : ((j : Int) + 1).toNat = j + 1 := by omega
              clear fu hx hy hpos hxl hlt hq hyx i1 i0'
              go_wp2_with fail
              go_quiet (fail)
              have hBn := Lib.hid (below_drewN HB.out nq)
              go_wp2_with fail
              go_roundw
              case rel => exact ⟨j + 1 + 1, by omega, by go_num, hBn.out⟩
              case measure => simp [intOf]; omega
          · have eq : q = P.length := by omega
            subst eq
            obtain ⟨t0, t1⟩ := two_in16 (kept HT.out.1 hB)
            obtain ⟨s0, s1⟩ := two_in16 (kept HT.out.2 hB)
            have HB := Lib.hid (HBT.out.trans (hB.mono zw))
            clear hB
            go_wp2_with fail
            go_ret
            exact ⟨by first | rfl | simp, HB.out⟩
      | some r =>
        obtain ⟨⟨a, b⟩, k⟩ := r
        obtain ⟨hta, htb⟩ := meet_bounds tl hmm
        obtain ⟨hk, hab, d1, d2⟩ := meet_is hmm
        obtain ⟨c', d', hmj', hca, hbd⟩ := meet_maj hmm
        rw [hmj] at hmj'
        obtain ⟨rfl, rfl⟩ : c = c' ∧ d = d' := by simpa using hmj'
        have hsp : spanF l = some (a, b) := by unfold spanF; rw [hmm]
        have hsL : selL l = selP l (a, b) := by unfold selL; rw [hsp]
        have hin : ∀ x ∈ selP l (a, b), ∃ cd, l[x]? = some cd ∧ cd.lo ≤ b ∧ a ≤ cd.hi := fun x hx => sel_in hok hx
        have hup : ∀ i x y, (selP l (a, b))[i]? = some x → (selP l (a, b))[i + 1]? = some y → x < y := fun i x y h1 h2 => sel_beside h1 h2
        rw [hmj] at KJ
        rw [hmm, show allowI l = (k : Int) by unfold allowI; rw [hmm]] at KM
        rw [hsp, hsL] at KS
        have hPl := sel_length l (a, b)
        generalize selP l (a, b) = P at *
        clear hmj hmm hsp hsL g1 g2 g4 hmj'
        have KM' : Hid (∀ W, Below w.heap.size w W → Calls Try.prog 16 #[.slice sx l.length sc] W fun e w' => e = .returned (.tuple #[.agg #[.int .i64 a, .int .i64 b], .int .i64 (k : Int), .bool true]) ∧ Below W.heap.size W w') := Lib.hid KM.out
        have KJ' : Hid (∀ W, Below w.heap.size w W → Calls Try.prog 14 #[.slice sx l.length sc] W fun e w' => e = .returned (.tuple #[.agg #[.int .i64 c, .int .i64 d], .bool true]) ∧ Below W.heap.size W w') := Lib.hid KJ.out
        have KS' : Hid (∀ W, Below w.heap.size w W → Calls Try.prog 15 #[.slice sx l.length sc] W fun e w' => ∃ u, e = .returned (.tuple #[.agg #[.int .i64 a, .int .i64 b], u, .bool true]) ∧ SlAt (fun b => W.heap.size ≤ b ∧ b < w'.heap.size) 1 plE w' u P ∧ Below W.heap.size W w') := Lib.hid KS.out
        have ka := Lib.hid (KD.out a hta)
        have kb := Lib.hid (KD.out b htb)
        have kc := Lib.hid (KD.out c htc)
        have kdd := Lib.hid (KD.out d htd)
        have lc := dep_le l c
        have ld := dep_le l d
        have w1r : IntKind.i64.wrap (2 * (k : Int)) = 2 * (k : Int) := by rw [IntKind.wrap_i64]; omega
        have w2r : IntKind.i64.wrap ((l.length : Int) - (k : Int)) = (l.length : Int) - (k : Int) := by rw [IntKind.wrap_i64]; omega
        have n1 : ¬ (l.length : Int) ≤ 2 * (k : Int) := by omega
        have n2 : ¬ b < a := by omega
        have n3 : ¬ (depN l a : Int) < (l.length : Int) - (k : Int) := by omega
        have n4 : ¬ (depN l b : Int) < (l.length : Int) - (k : Int) := by omega
        have n5 : ¬ a < c := by omega
        have n6 : ¬ d < b := by omega
        have w3r : IntKind.i64.wrap (2 * (depN l c : Int)) = 2 * (depN l c : Int) := by rw [IntKind.wrap_i64]; omega
        have w4r : IntKind.i64.wrap (2 * (depN l d : Int)) = 2 * (depN l d : Int) := by rw [IntKind.wrap_i64]; omega
        have n7 : ¬ 2 * (depN l c : Int) ≤ (l.length : Int) := by omega
        have n8 : ¬ 2 * (depN l d : Int) ≤ (l.length : Int) := by omega
        have n9 : ¬ d < c := by omega
        generalize depN l c = dc at *
        generalize depN l d = dd at *
        generalize depN l a = da at *
        generalize depN l b = db at *
        clear KJ KM KS KD hok hc hv hve hcap hl tl
        go_enter Try.func4, Try.ntmps4
        go_wp2_with fail
        (with_reducible refine k1.mono ?_)
        rintro e w1 ⟨rfl, B1⟩
        clear k1
        go_wp2_with fail
        (with_reducible refine (cs _).mono ?_)
        rintro e w2 ⟨rfl, hb2⟩
        have B2 := B1.trans (hb2.mono B1.size)
        clear hb2 B1
        have km := KM'.out _ B2
        go_wp2_with fail
        (with_reducible refine (km).mono ?_)
        rintro e w3 ⟨rfl, hb3⟩
        have B3 := B2.trans (hb3.mono B2.size)
        clear hb3 B2
        have B4 := B3.alloc B3.size (.cells #[.int .i64 (a), .int .i64 (b)] 31)
        have hs := heap_alloc_new w3 (.cells #[.int .i64 (a), .int .i64 (b)] 31)
        go_upto_region 4 with fail
        generalize w3.alloc (.cells #[.int .i64 (a), .int .i64 (b)] 31) = w4 at *
        have kj := KJ'.out _ B4
        go_wp2_with fail
        (with_reducible refine (kj).mono ?_)
        rintro e w5 ⟨rfl, hb5⟩
        have B5 := B4.trans (hb5.mono B4.size)
        replace hs := kept hs hb5
        clear hb5 B4
        have B6 := B5.alloc B5.size (.cells #[.int .i64 (c), .int .i64 (d)] 31)
        have hm2 := heap_alloc_new w5 (.cells #[.int .i64 (c), .int .i64 (d)] 31)
        replace hs := laid (.cells #[.int .i64 (c), .int .i64 (d)] 31) hs
        go_upto_region 5 with fail
        generalize w5.alloc (.cells #[.int .i64 (c), .int .i64 (d)] 31) = w6 at *
        obtain ⟨s0, s1⟩ := two_in16 hs
        obtain ⟨m0, m1⟩ := two_in16 hm2
        have kk := ka.out _ B6
        go_wp2_with fail
        (with_reducible refine (kk).mono ?_)
        rintro e w7 ⟨rfl, hb7⟩
        have B7 := B6.trans (hb7.mono B6.size)
        replace hs := kept hs hb7
        replace hm2 := kept hm2 hb7
        clear hb7 B6
        clear s0 s1 m0 m1
        obtain ⟨s0, s1⟩ := two_in16 hs
        obtain ⟨m0, m1⟩ := two_in16 hm2
        have kk := kb.out _ B7
        go_wp2_with fail
        (with_reducible refine (kk).mono ?_)
        rintro e w8 ⟨rfl, hb8⟩
        have B8 := B7.trans (hb8.mono B7.size)
        replace hs := kept hs hb8
        replace hm2 := kept hm2 hb8
        clear hb8 B7
        clear s0 s1 m0 m1
        obtain ⟨s0, s1⟩ := two_in16 hs
        obtain ⟨m0, m1⟩ := two_in16 hm2
        have kk := kc.out _ B8
        go_wp2_with fail
        (with_reducible refine (kk).mono ?_)
        rintro e w9 ⟨rfl, hb9⟩
        have B9 := B8.trans (hb9.mono B8.size)
        replace hs := kept hs hb9
        replace hm2 := kept hm2 hb9
        clear hb9 B8
        clear s0 s1 m0 m1
        obtain ⟨s0, s1⟩ := two_in16 hs
        obtain ⟨m0, m1⟩ := two_in16 hm2
        have kk := kdd.out _ B9
        go_wp2_with fail
        (with_reducible refine (kk).mono ?_)
        rintro e w10 ⟨rfl, hb10⟩
        have B10 := B9.trans (hb10.mono B9.size)
        replace hs := kept hs hb10
        replace hm2 := kept hm2 hb10
        clear hb10 B9
        clear s0 s1 m0 m1
        obtain ⟨s0, s1⟩ := two_in16 hs
        obtain ⟨m0, m1⟩ := two_in16 hm2
        have ks := KS'.out _ B10
        go_wp2_with fail
        (with_reducible refine ks.mono ?_)
        rintro e w11 ⟨u, rfl, hu, hb11⟩
        obtain ⟨ux, uc, rfl⟩ := hu.slice
        have BS := B10.trans (hb11.mono B10.size)
        have zz := BS.size
        replace hs := laid (.cells #[.int .i64 (a), .int .i64 (b)] 31) (kept hs hb11)
        have ht := heap_alloc_new w11 (.cells #[.int .i64 (a), .int .i64 (b)] 31)
        have hu := hu.kept (w' := w11.alloc (.cells #[.int .i64 (a), .int .i64 (b)] 31)) (fun blk hb => ((Below.refl _ _).alloc (Nat.le_refl _) (.cells #[.int .i64 (a), .int .i64 (b)] 31)).block blk hb.2)
        have BT := BS.alloc BS.size (.cells #[.int .i64 (a), .int .i64 (b)] 31)
        have hv := HV.out.kept BT.block
        have HU := Lib.hid hu
        have HVT := Lib.hid hv
        have HT := Lib.hid (And.intro ht hs)
        have lT := (Array.getElem?_eq_some_iff.1 ht).1
        have lS := (Array.getElem?_eq_some_iff.1 hs).1
        have HBT := Lib.hid BT
        have zw := BT.size
        clear hb11 BS zz hu hv hs ht hm2 s0 s1 m0 m1 ks B10 BT
        go_upto_region 10 with fail
        generalize w11.alloc (.cells #[.int .i64 (a), .int .i64 (b)] 31) = wt at *
        go_wp2_with fail
        go_loopw [11] (fun i wr => ∃ q : Nat, q ≤ P.length ∧ i = .int .i64 (q : Int) ∧ Below wt.heap.size wt wr) (fun i _ => P.length - (intOf i).toNat)
        case atStart => exact ⟨0, Nat.zero_le _, rfl, Below.refl _ _⟩
        case round =>
          obtain ⟨q, hq, rfl, hB⟩ := hrel
          have z7 := hB.size
          by_cases hlt : q < P.length
          · obtain ⟨x, hx⟩ : ∃ x, P[q]? = some x := ⟨_, List.getElem?_eq_getElem hlt⟩
            obtain ⟨cd, hcd, hc1, hc2⟩ := hin x (List.mem_of_getElem? hx)
            have hxl : x < l.length := (List.getElem?_eq_some_iff.1 hcd).1
            have i1 : (q : Int) < P.length := by omega
            have i0' : (0 : Int) ≤ (q : Int) := by omega
            rcases HU.out with ⟨_, _, _, _, hnil⟩ | ⟨bu, ou, cu, hvu, hFu, cu'⟩
            · rw [hnil] at hx
              simp at hx
            have hux := (Value.slice.inj hvu).1
            subst hux
            rcases HVT.out with ⟨_, _, _, _, hnil⟩ | ⟨bl, ol, cl, hvl, hFl, cl'⟩
            · rw [hnil] at hcd
              simp at hcd
            have hlx := (Value.slice.inj hvl).1
            subst hlx
            have fu : ∀ i y : Nat, P[i]? = some y → wr.cell? ⟨bu, ou + i, none⟩ = some (.int .i64 (y : Int)) := fun i y hy => by
              rw [hB.cell (Nat.lt_trans hFu.2 (by omega))]
              have := cu' i y hy 0 _ rfl
              simpa using this
            obtain ⟨x0, x1, x2⟩ := cd_at (w := wr) (b := bl) (q := ol + x * 3) (c := cd) (fun j u hu => by
              rw [hB.cell (Nat.lt_of_lt_of_le hFl zw)]
              exact cl' x cd hcd j u hu)
            obtain ⟨t0, t1⟩ := two_in16 (kept HT.out.1 hB)
            have fx := fu q x hx
            have e1 : decide ((x : Int) < 0) = false := decide_eq_false (by omega)
            have e2 : decide ((l.length : Int) ≤ (x : Int)) = false := decide_eq_false (by omega)
            have e2n : decide (l.length ≤ x) = false := decide_eq_false (by omega)
            have e3 : decide (b < cd.lo) = false := decide_eq_false (by omega)
            have e4 : decide (cd.hi < a) = false := decide_eq_false (by omega)
            have xx0 : (0 : Int) ≤ (x : Int) := by omega
            have xx1 : (x : Int) < (l.length : Int) := by omega
            have HB := Lib.hid hB
            clear cu' cl' hvu hvl hFu hFl hB x1 hcd hc1 hc2
            rcases Nat.eq_zero_or_pos q with hz | hpos
            · have hd : decide ((0 : Int) < (q : Int)) = false := decide_eq_false (by omega)
              have hd' : decide (0 < q) = false := decide_eq_false (by omega)
              clear fu hx hz hxl hlt hq
              go_wp2_with fail
              go_quiet (fail)
              have hBn := Lib.hid (below_drewN HB.out nq)
              go_wp2_with fail
              go_roundw
              case rel => exact ⟨q + 1, by omega, by go_num, hBn.out⟩
              case measure => simp [intOf]; omega
            · obtain ⟨j, rfl⟩ : ∃ j, q = j + 1 := ⟨q - 1, by omega⟩
              obtain ⟨y, hy⟩ : ∃ y, P[j]? = some y := ⟨_, List.getElem?_eq_getElem (by omega)⟩
              have hyx := hup j y x hy hx
              have fy := fu j y hy
              have hgd : decide ((0 : Int) < ((j : Int) + 1)) = true := decide_eq_true (by omega)
              have hwr : IntKind.i64.wrap ((j : Int) + 1 - 1) = (j : Int) := by rw [IntKind.wrap_i64]; omega
              have hwr2 : IntKind.i64.wrap (j : Int) = (j : Int) := by rw [IntKind.wrap_i64]; omega
              have e5 : decide ((x : Int) ≤ (y : Int)) = false := decide_eq_false (by omega)
              have e5n : decide (x ≤ y) = false := decide_eq_false (by omega)
              have j0' : (0 : Int) ≤ (j : Int) := by omega
              have j1' : (j : Int) < (P.length : Int) := by omega
              have i1'' : (j : Int) + 1 < (P.length : Int) := by omega
              have i0'' : (0 : Int) ≤ (j : Int) + 1 := by omega
              have itn : ((j : Int) + 1).toNat = j + 1 := by omega
              clear fu hx hy hpos hxl hlt hq hyx i1 i0'
              go_wp2_with fail
              go_quiet (fail)
              have hBn := Lib.hid (below_drewN HB.out nq)
              go_wp2_with fail
              go_roundw
              case rel => exact ⟨j + 1 + 1, by omega, by go_num, hBn.out⟩
              case measure => simp [intOf]; omega
          · have eq : q = P.length := by omega
            subst eq
            obtain ⟨t0, t1⟩ := two_in16 (kept HT.out.1 hB)
            obtain ⟨s0, s1⟩ := two_in16 (kept HT.out.2 hB)
            have HB := Lib.hid (HBT.out.trans (hB.mono zw))
            clear hB
            go_wp2_with fail
            go_ret
            exact ⟨by first | rfl | simp, HB.out⟩
  · skip
    have h1 : chkC l = 1 := by
      unfold chkC at hc ⊢
      split
      · rfl
      · rename_i g
        exact absurd (if_neg g) hc
    rw [h1] at k1
    have hne : l ≠ [] := by
      rintro rfl
      exact hc (by unfold chkC; rw [if_neg]; simp)
    obtain ⟨m, hmn⟩ : ∃ m : Nat, min l.length 20 = m := ⟨_, rfl⟩
    have hmn' : min (l.length : Int) 20 = (m : Int) := by omega
    have rm := fun ts t W => run_min16 (l.length : Int) 20 m hmn' ts t W
    obtain ⟨rs, sl⟩ := cut16 HV.out hne hcap.1 (m := m) (by omega)
    have hcm : chkC (l.take m) = 1 := by
      by_cases h10 : 10 < l.length
      · unfold chkC
        rw [if_pos (.inl (by rw [List.length_take]; omega))]
      · rw [List.take_of_length_le (by omega), h1]
    have hlm : (l.take m).length ≤ 100000 := by rw [List.length_take]; omega
    have K3 := Lib.hid (fun W (hB : Below w.heap.size w W) => theirs16_any (l.take m) hlm (F := fun b => b < w.heap.size) (v := .slice sx m sc) W (sl.kept hB.block) (fun b hb => Nat.lt_of_lt_of_le hb hB.size))
    have K4 := Lib.hid (fun (u : Value) (B : Nat) W (hs : SlAt (fun b => B ≤ b ∧ b < W.heap.size) 3 cdC W u (l.take m)) => rchk16_any (l.take m) hlm W hs (fun b hb => hb.2))
    rw [hcm] at K4
    have hl0 : (l.length : Int) ≠ 0 := by have := List.length_pos_iff.2 hne; omega
    have hlz : ((l.length : Int) == 0) = false := beq_eq_false_iff_ne.2 hl0
    clear hv hc hcm sl hve hcap tl hne hmn hl hm hlm h1 HV hl0
    go_enter Try.func4, Try.ntmps4
    go_wp2_with fail
    (with_reducible refine k1.mono ?_)
    rintro e w1 ⟨rfl, hb1⟩
    have k3 := K3.out w1 hb1
    clear k1
    go_wp2_with fail
    (with_reducible refine k3.mono ?_)
    rintro e w2 ⟨u, rfl, hu, hb2⟩
    have k4 := K4.out u _ w2 hu
    have B2 := hb1.trans (hb2.mono hb1.size)
    clear k3 hu hb1 hb2
    go_wp2_with fail
    (with_reducible refine k4.mono ?_)
    rintro e w3 ⟨rfl, hb3⟩
    have B3 := B2.trans (hb3.mono B2.size)
    clear k4 hb3 B2
    go_wp2_with fail
    (with_reducible refine (cs _).mono ?_)
    rintro e w4 ⟨rfl, hb4⟩
    have B4 := B3.trans (hb4.mono B3.size)
    clear hb4 B3
    go_wp2_with fail
    go_ret
    exact ⟨rfl, B4⟩
set_option maxRecDepth 100000 in
theorem lifted (os : Os) (started : os.Started) (H : Type) (enc : TypeId × Value → H) :
    ReturnsInHanded {} Try.checked os 4 .any (Rows.meetWithinSpec.pre6 enc Try.prog Try.f4 Rows.meetWithinRow.domain false) (Rows.meetWithinSpec.post enc Try.prog Try.f4 false true false false) := by
  refine returnsInHanded_of_change (C := Try.checked) own started (by kernel_rfl) Try.func4
    (ChangeSpec.witness6 (enc := enc) (C := Try.checked) false ⟨#[], #[.slice none 0 0], []⟩ 8 (by kernel_rfl) (by kernel_rfl) (by kernel_rfl) (by kernel_rfl)) ?_
  intro W base args ds gs before hval0 hW hcnd _
  have hval : ∀ (j : Nat) t v, Try.f4.params[j]? = some t → args[j]? = some v → Value.okWide Try.prog W .any base t v := hval0
  have hW' := hW
  obtain ⟨p, q, hA0, hV, rfl, hfz, hnd⟩ := hW
  have hA : DataW.TrodAll enc Try.prog W 0 (fun _ => true) true Try.f4.params.toList args.toList ds p := hA0
  rw [Try.params4] at hA hval
  obtain ⟨v0, vs0, d0, ds0, p0, q0, hargs, rfl, rfl, h0, r0⟩ := trodAll_cons hA
  obtain ⟨rfl, rfl, rfl⟩ := trodAll_nil r0
  obtain rfl : args = #[v0] := by cases args; simp_all
  obtain ⟨rfl, rfl⟩ := trodVars_none hV
  have k0 := h0
  have lt0 : ∀ x ∈ p0, x.block < W.heap.size := by obtain ⟨m, hm⟩ := k0; exact DataW.trod_lt m _ _ _ hm
  obtain ⟨a0, len0, cap0, rfl⟩ := okWide_slice Try.underlying22 (hval 0 22 v0 rfl rfl)
  obtain ⟨z0, w0a, w0b, w0c⟩ : ∃ l : List Cd, SlAt (fun b => b < W.heap.size) 3 cdC W (.slice a0 len0 cap0) l ∧ (∀ f ∈ l, Cd.Typed f) ∧ l.length ≤ maxLen := by
    obtain ⟨fuel, hf⟩ := h0
    obtain ⟨v, l, hcs, h1, h2, h3⟩ := open_cds hf
    simp [Value.cells] at hcs
    subst hcs
    exact ⟨l, h1, h2, h3⟩
  have w0d : len0 ≤ cap0 ∧ cap0 ≤ maxLen := by
    obtain ⟨fuel, hf⟩ := k0
    exact cap_ok Try.underlying22 hf
  clear hA0 hval0
  refine (walk (.slice a0 len0 cap0) z0 W w0a w0b w0c _ _ _ rfl w0d).mono fun e W' ⟨he, bel⟩ => ?_
  subst he
  exact ⟨_, rfl, _, _, _, [], _, [], hW', trodAll_mk1 (shut_bool Try.underlying4 _), (trodAll_cons_mk (Below.trod laidOut (by kernel_rfl) (of_decide_eq_true (by kernel_rfl)) k0 bel lt0) trodAll_mk0), rfl, bel.frame _, fun h => by cases h⟩

theorem over : Rows.meetWithinRow.holds Try.pinned (OpenSpec.ofChange Rows.meetWithinSpec) :=
  OpenClaim.holds_of_wide 4 Try.f4 rfl rfl rfl rfl rfl rfl rfl ⟨rfl, rfl, rfl, rfl, rfl⟩ rfl rfl rfl rfl rfl (by kernel_rfl) Try.func4 (by kernel_rfl)
    (of_decide_eq_true (by kernel_rfl)) (by unfold Func.isWrapper; first | (rw [if_pos (by decide +kernel)]; kernel_rfl) | (rw [if_neg (by decide +kernel)]; exact ⟨rfl, rfl⟩))
    (fun os started H enc _ => lifted os started H enc)

theorem proved : Rows.MeetWithinSaid := over
end Go.Proofs.Ytkbjmcgnjhpkiaa.MeetWithin
