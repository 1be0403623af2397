/- MeetGrows: a span that gets wider keeps most together: what was told of most is still in it. No further condition. -/
import Derived.Test.YtkbjmcgnjhpkiaaMtZ
import Derived.WalkKit
import Derived.WalkSpells
import Derived.WalkLawsBesides
import Derived.Lib.Hide
import Derived.Handy
import Derived.ProofKit
import Derived.OpenShut
import Derived.ShutString
import Derived.ChangeOld
import Derived.Below
namespace Go.Proofs.Ytkbjmcgnjhpkiaa.MeetGrows
open Go.RowKit Go.Sort Go.Proofs.Ytkbjmcgnjhpkiaa.W
open Go.ChangeShapes Go.WideShapes Go.ChangeAt
open Go.ChangeMaps (open_string shut_string)
set_option linter.unusedVariables false
set_option linter.unusedSimpArgs false
theorem own : ownKnob Try.prog.godebug = none := by kernel_rfl
theorem laidOut : laidOutB Try.prog = true := by kernel_rfl
theorem two_in16 {w : World} {b : Nat} {x y : Value} {t : TypeId} (h : w.heap[b]? = some (.cells #[x, y] t (0, 0))) : w.cell? ⟨b, 0, none⟩ = some x ∧ w.cell? ⟨b, 1, none⟩ = some y := by constructor <;> simp [World.cell?, h]
set_option maxRecDepth 100000 in
set_option maxHeartbeats 25600000 in
theorem walk (v : Value) (l : List Cd) (k by_ : Int) (w : World) (hv : SlAt (fun b => b < w.heap.size) 3 cdC w v l) (tl : ∀ c ∈ l, c.Typed) (hl : l.length ≤ maxLen) (vx : Option Addr) (n0 vc : Nat) (hve : v = .slice vx n0 vc) (hcap : n0 ≤ vc ∧ vc ≤ maxLen) (wk : (Lit.int .u8 k).wf = true) (wb : (Lit.int .u32 by_).wf = true) :
    Calls Try.prog 6 #[v, .int .u8 k, .int .u32 by_] w fun e w' => e = .returned (.bool true) ∧ Below w.heap.size w w' := by
  have k0 := bounds_u8 wk
  have hby := bounds_u32 wb
  obtain ⟨kn, rfl⟩ : ∃ kn : Nat, k = (kn : Int) := ⟨k.toNat, by omega⟩
  clear wk wb
  obtain ⟨i0, hi0, hz0, hz1, hz2⟩ := info_parts info_cd
  have hm : l.length ≤ 9223372036854775807 := by unfold maxLen at hl; omega
  have cs := shown16_any
  have HV := Lib.hid hv
  obtain ⟨sx, sc, hve'⟩ := hv.slice
  obtain ⟨rfl, rfl, rfl⟩ : sx = vx ∧ l.length = n0 ∧ sc = vc := by rw [hve'] at hve; exact Value.slice.inj hve
  subst hve'
  have k1 := mchk_any l tl w hv (fun b hb => hb)
  by_cases hc : chkC l = 0
  · skip
    rw [hc] at k1
    have h10 : l.length ≤ 10 := by
      unfold chkC at hc
      split at hc
      · cases hc
      · rename_i g
        omega
    have hok : ∀ c ∈ l, c.Ok := by
      unfold chkC at hc
      split at hc
      · cases hc
      · rename_i g
        intro c hcm
        exact Classical.byContradiction fun hn => g (.inr ⟨c, hcm, hn⟩)
    have i10 : ¬ (10 : Int) < l.length := by omega
    have KD := Lib.hid (fun x x0 W (hB : Below w.heap.size w W) => mdep_any l tl hc x x0 W (HV.out.kept hB.block) (fun b hb => Nat.lt_of_lt_of_le hb hB.size))
    have KJ := Lib.hid (fun W (hB : Below w.heap.size w W) => mmaj_any l tl hc W (HV.out.kept hB.block) (fun b hb => Nat.lt_of_lt_of_le hb hB.size))
    have KM := Lib.hid (fun W (hB : Below w.heap.size w W) => mmeet_any l tl hc W (HV.out.kept hB.block) (fun b hb => Nat.lt_of_lt_of_le hb hB.size))
    have KS := Lib.hid (fun W (hB : Below w.heap.size w W) => msel_any l tl hc W (HV.out.kept hB.block) (fun b hb => Nat.lt_of_lt_of_le hb hB.size))
    rcases Nat.eq_zero_or_pos l.length with he | he
    · have hlz : ((l.length : Int) == 0) = true := beq_iff_eq.2 (by omega)
      clear KM KS KD KJ hok hc hv hve hcap hl tl he HV
      go_enter Try.func6, Try.ntmps6
      go_wp2_with fail
      (with_reducible refine k1.mono ?_)
      rintro e w1 ⟨rfl, B1⟩
      clear k1
      go_wp2_with fail
      (with_reducible refine (cs _).mono ?_)
      rintro e w2 ⟨rfl, hb2⟩
      have B2 := B1.trans (hb2.mono B1.size)
      clear hb2 B1
      go_wp2_with fail
      go_ret
      exact ⟨rfl, B2⟩
    · skip
      have hwk : IntKind.i64.wrap (kn : Int) = (kn : Int) := by rw [IntKind.wrap_i64]; omega
      have hwb : IntKind.i64.wrap by_ = by_ := by rw [IntKind.wrap_i64]; omega
      have hw1 : IntKind.i64.wrap (-9223372036854775807 + by_) = -9223372036854775807 + by_ := by rw [IntKind.wrap_i64]; omega
      have hw2 : IntKind.i64.wrap (9223372036854775807 - by_) = 9223372036854775807 - by_ := by rw [IntKind.wrap_i64]; omega
      obtain ⟨j, hj⟩ : ∃ j, kn % l.length = j := ⟨_, rfl⟩
      have hjl : j < l.length := by rw [← hj]; exact Nat.mod_lt _ (by omega)
      obtain ⟨c, hcj⟩ : ∃ c, l[j]? = some c := ⟨_, List.getElem?_eq_getElem hjl⟩
      have hrem : Int.tmod (kn : Int) (l.length : Int) = (j : Int) := by rw [← hj]; rfl
      have hwj : IntKind.i64.wrap (j : Int) = (j : Int) := by rw [IntKind.wrap_i64]; omega
      have hn0 : ¬ (l.length : Int) = 0 := by omega
      have hlz : ((l.length : Int) == 0) = false := beq_eq_false_iff_ne.2 hn0
      have j0 : (0 : Int) ≤ (j : Int) := by omega
      have j1 : (j : Int) < (l.length : Int) := by omega
      have tc := tl c (List.mem_of_getElem? hcj)
      have okc := hok c (List.mem_of_getElem? hcj)
      have tlo := tc.lo
      have thi := tc.hi
      have hmid := tc.mid
      unfold Cd.Ok at okc
      obtain ⟨L, hL⟩ : ∃ L, l.set j ⟨c.lo - by_, c.mid, c.hi + by_⟩ = L := ⟨_, rfl⟩
      have hLl : L.length = l.length := by rw [← hL, List.length_set]
      have hLd : ∀ x, depN l x ≤ depN L x := fun x => by rw [← hL]; exact dep_set hcj (by show c.lo - by_ ≤ c.lo; omega) (by show c.hi ≤ c.hi + by_; omega) x
      have hLok : ∀ c' ∈ L, c'.Ok := fun c' h' => by
        rw [← hL] at h'
        rcases List.mem_or_eq_of_mem_set h' with h' | rfl
        · exact hok c' h'
        · exact ⟨by show c.lo - by_ ≤ c.mid; omega, by show c.mid ≤ c.hi + by_; omega⟩
      have hLc : chkC L = 0 := by
        unfold chkC
        rw [if_neg]
        rintro (g | ⟨c', g1, g2⟩)
        · omega
        · exact g2 (hLok c' g1)
      have hfl := flat_set16 hcj (d := ⟨c.lo - by_, c.mid, c.hi + by_⟩) rfl
      rw [hL] at hfl
      dsimp only at hfl
      have hf0 := flat_cell16 hcj 0 _ rfl
      have hf2 := flat_cell16 hcj 2 _ rfl
      rw [Nat.add_zero] at hf0
      have FF := Lib.hid (And.intro hfl (And.intro hf0 hf2))
      have hwide := fun a b (h : majF l = some (a, b)) => maj_wide hLl.symm hLd h
      have TLL := Lib.hid (fun (g1 : -9223372036854775807 ≤ c.lo - by_) (g2 : c.hi + by_ ≤ 9223372036854775807) => show ∀ c' ∈ L, c'.Typed from fun c' h' => by
        rw [← hL] at h'
        rcases List.mem_or_eq_of_mem_set h' with h' | rfl
        · exact tl c' h'
        · exact ⟨⟨by show -9223372036854775808 ≤ c.lo - by_; omega, by show c.lo - by_ ≤ 9223372036854775807; omega⟩, tc.mid, ⟨by show -9223372036854775808 ≤ c.hi + by_; omega, by show c.hi + by_ ≤ 9223372036854775807; omega⟩⟩)
      have HW := Lib.hid hwide
      have HLc := Lib.hid (And.intro hLc hLl)
      generalize hC0 : spLo (majF l) = C0 at *
      generalize hC1 : spHi (majF l) = C1 at *
      generalize hJ0 : (majF l).isSome = J0 at *
      have CC := Lib.hid (And.intro hC0 (And.intro hC1 hJ0))
      rcases HV.out with ⟨_, _, _, _, hnil⟩ | ⟨bl, ol, cl, hvl, hFl, cl'⟩
      · rw [hnil] at hjl
        simp at hjl
      have hlx := (Value.slice.inj hvl).1
      subst hlx
      have CL := Lib.hid cl'
      clear KM KS KD hok hc hv hve hcap hl tl hC0 hC1 hJ0 hj hcj hL hLl hLd hLok hLc hfl hf0 hf2 hwide hvl cl' tc
      go_enter Try.func6, Try.ntmps6
      go_wp2_with fail
      (with_reducible refine k1.mono ?_)
      rintro e w1 ⟨rfl, B1⟩
      clear k1
      go_wp2_with fail
      (with_reducible refine (cs _).mono ?_)
      rintro e w2 ⟨rfl, hb2⟩
      have B2 := B1.trans (hb2.mono B1.size)
      clear hb2 B1
      have kj := KJ.out _ B2
      go_wp2_with fail
      (with_reducible refine (kj).mono ?_)
      rintro e w3 ⟨rfl, hb3⟩
      have B3 := B2.trans (hb3.mono B2.size)
      clear hb3 B2
      have B4 := B3.alloc B3.size (.cells #[.int .i64 C0, .int .i64 C1] 31)
      have hs := heap_alloc_new w3 (.cells #[.int .i64 C0, .int .i64 C1] 31)
      go_upto_region 4 with fail
      generalize w3.alloc (.cells #[.int .i64 C0, .int .i64 C1] 31) = w4 at *
      have ownS := ownsRow_fresh w4 41 3 w4.heap.size (Nat.le_refl _)
      have bS := (Below.refl w4.heap.size w4).alloc (Nat.le_refl _) (.cells #[] 41)
      have hrow := row_of16 (l := l) (w := w4.alloc (.cells #[] 41)) (b := bl) (off := ol) (fun i x hx j' u hu => by
        rw [bS.cell (Nat.lt_of_lt_of_le hFl B4.size), B4.cell hFl]
        exact CL.out i x hx j' u hu)
      have HRW := Lib.hid hrow
      have HS := Lib.hid hs
      have HB4 := Lib.hid B4
      have l4 := B4.size
      have lfl := flat_length 3 cdC cdC_length l
      clear hrow hs B4
      go_upto_region 5 with fail
      generalize hw5 : w4.alloc (.cells #[] 41) = w5 at *
      clear hw5
      go_cut [9] (fun v wx => wx.ownsRow w4.heap.size 41 3 v l.length (l.flatMap cdC) ∧ Below w4.heap.size w4 wx)
      case first =>
        go_wp2_with (at_builtin; refine wpList_append_own _ rfl _ _ 22 rfl w4.heap.size 41 i0 _ 3 24 Try.underlying22 hi0 hz0 hz1 hz2 rfl (by decide) _ _ _ rfl ownS ⟨bl, ol, none⟩ l.length sc (l.flatMap cdC) rfl lfl HRW.out flat_one16 (by unfold maxLen; omega) (by omega) bS.size ?_; intro v6 w6 hown6 hgrow6 _; have own6 : w6.ownsRow w4.heap.size 41 3 v6 l.length (l.flatMap cdC) := (by simpa using hown6); have B6 := bS.grown hgrow6 bS.size (fun g hg => by have := (ownS.lt g hg).1; omega))
        go_meet
        exact ⟨own6, B6⟩
      case rest =>
        generalize wc = w6 at *
        have own6 : w6.ownsRow w4.heap.size 41 3 _ l.length (l.flatMap cdC) := hcut.1
        have B6 := hcut.2
        clear hcut
        obtain ⟨g, cap, rfl, hg1, hg2⟩ := own6.form he
        obtain ⟨hfl, hf0, hf2⟩ := FF.out
        have m0 : w6.cell? ⟨g, j * 3, none⟩ = some (.int .i64 c.lo) := by rw [own6.cellAt (j * 3) (by omega)]; exact hf0
        have m2 : w6.cell? ⟨g, j * 3 + 2, none⟩ = some (.int .i64 c.hi) := by rw [own6.cellAt (j * 3 + 2) (by omega)]; exact hf2
        have fr := fun q => own6.frozenAt q
        have BW := Lib.hid (HB4.out.trans (B6.mono l4))
        clear HRW ownS bS
        by_cases g1 : c.lo < -9223372036854775807 + by_
        · clear own6 B6 hfl hf0 hf2 fr m2
          go_wp2_with fail
          go_ret
          exact ⟨rfl, BW.out⟩
        by_cases g2 : 9223372036854775807 - by_ < c.hi
        · clear own6 B6 hfl hf0 hf2 fr
          go_wp2_with fail
          go_ret
          exact ⟨rfl, BW.out⟩
        have hw3 : IntKind.i64.wrap (c.lo - by_) = c.lo - by_ := by rw [IntKind.wrap_i64]; omega
        have hw4 : IntKind.i64.wrap (c.hi + by_) = c.hi + by_ := by rw [IntKind.wrap_i64]; omega
        have tL := Lib.hid (TLL.out (by omega) (by omega))
        have own7 := (own6.stored (j * 3) (.int .i64 (c.lo - by_))).1
        have B7 := B6.setCell (p := ⟨g, j * 3, none⟩) hg1 (.int .i64 (c.lo - by_))
        have OB := Lib.hid (And.intro own7 B7)
        clear own7 B7 own6 B6
        go_upto_region 10 with fail
        generalize w6.setCell ⟨g, j * 3, none⟩ (.int .i64 (c.lo - by_)) = w7 at *
        obtain ⟨own7, B7⟩ := OB.out
        have m2' : w7.cell? ⟨g, j * 3 + 2, none⟩ = some (.int .i64 c.hi) := by rw [own7.cellAt (j * 3 + 2) (by omega), List.getElem?_set_ne (by omega)]; exact hf2
        have fr7 := fun q => own7.frozenAt q
        have own8 := (own7.stored (j * 3 + 2) (.int .i64 (c.hi + by_))).1
        rw [hfl] at own8
        have B8 := B7.setCell (p := ⟨g, j * 3 + 2, none⟩) hg1 (.int .i64 (c.hi + by_))
        have OB8 := Lib.hid (And.intro own8 B8)
        clear own7 B7 own8 B8 m0 m2 fr hf0 hf2 hfl OB
        go_upto_region 11 with fail
        generalize w7.setCell ⟨g, j * 3 + 2, none⟩ (.int .i64 (c.hi + by_)) = w8 at *
        obtain ⟨own8, B8⟩ := OB8.out
        have own8' : w8.ownsRow w4.heap.size 41 3 (.slice (some ⟨g, 0, none⟩) l.length cap) L.length (L.flatMap cdC) := by rw [HLc.out.2]; exact own8
        have hT := SlAt.own cdC_length own8'
        have kt := mmaj_any L tL.out HLc.out.1 w8 hT (fun b hb => hb.2)
        have hcase : J0 = false ∨ (J0 = true ∧ (majF L).isSome = true ∧ spLo (majF L) ≤ C0 ∧ C1 ≤ spHi (majF L)) := by
          obtain ⟨e1, e2, e3⟩ := CC.out
          cases hmj : majF l with
          | none => left; rw [← e3, hmj]; rfl
          | some r =>
            obtain ⟨a, b⟩ := r
            obtain ⟨a', b', hL', ha, hb⟩ := HW.out a b hmj
            right
            rw [← e1, ← e2, ← e3, hmj, hL']
            exact ⟨rfl, rfl, ha, hb⟩
        generalize spLo (majF L) = T0 at *
        generalize spHi (majF L) = T1 at *
        generalize (majF L).isSome = TI at *
        have hs8 := kept HS.out B8
        have BW8 := HB4.out.trans (B8.mono l4)
        clear own8 own8' hT OB8 m2' fr7 HW CC HLc tL BW
        go_wp2_with fail
        (with_reducible refine kt.mono ?_)
        rintro e w9 ⟨rfl, hb9⟩
        have hs9 := laid (.cells #[.int .i64 T0, .int .i64 T1] 31) (kept hs8 hb9)
        have ht := heap_alloc_new w9 (.cells #[.int .i64 T0, .int .i64 T1] 31)
        have B9 := BW8.trans (hb9.mono BW8.size)
        have B10 := Lib.hid (B9.alloc B9.size (.cells #[.int .i64 T0, .int .i64 T1] 31))
        clear hb9 B9 BW8 hs8 kt
        go_upto_region 12 with fail
        generalize w9.alloc (.cells #[.int .i64 T0, .int .i64 T1] 31) = w10 at *
        obtain ⟨s0, s1⟩ := two_in16 hs9
        obtain ⟨t0, t1⟩ := two_in16 ht
        clear hs9 ht
        rcases hcase with rfl | ⟨rfl, rfl, q1, q2⟩
        · go_wp2_with fail
          go_ret
          exact ⟨by first | rfl | simp, B10.out⟩
        · go_wp2_with fail
          go_ret
          exact ⟨by first | rfl | simp | (simp; omega), B10.out⟩
  · skip
    have h1 : chkC l = 1 := by
      unfold chkC at hc ⊢
      split
      · rfl
      · rename_i g
        exact absurd (if_neg g) hc
    rw [h1] at k1
    have hne : l ≠ [] := by
      rintro rfl
      exact hc (by unfold chkC; rw [if_neg]; simp)
    obtain ⟨m, hmn⟩ : ∃ m : Nat, min l.length 20 = m := ⟨_, rfl⟩
    have hmn' : min (l.length : Int) 20 = (m : Int) := by omega
    have rm := fun ts t W => run_min16 (l.length : Int) 20 m hmn' ts t W
    obtain ⟨rs, sl⟩ := cut16 HV.out hne hcap.1 (m := m) (by omega)
    have hcm : chkC (l.take m) = 1 := by
      by_cases h10 : 10 < l.length
      · unfold chkC
        rw [if_pos (.inl (by rw [List.length_take]; omega))]
      · rw [List.take_of_length_le (by omega), h1]
    have hlm : (l.take m).length ≤ 100000 := by rw [List.length_take]; omega
    have K3 := Lib.hid (fun W (hB : Below w.heap.size w W) => theirs16_any (l.take m) hlm (F := fun b => b < w.heap.size) (v := .slice sx m sc) W (sl.kept hB.block) (fun b hb => Nat.lt_of_lt_of_le hb hB.size))
    have K4 := Lib.hid (fun (u : Value) (B : Nat) W (hs : SlAt (fun b => B ≤ b ∧ b < W.heap.size) 3 cdC W u (l.take m)) => rchk16_any (l.take m) hlm W hs (fun b hb => hb.2))
    rw [hcm] at K4
    have hl0 : (l.length : Int) ≠ 0 := by have := List.length_pos_iff.2 hne; omega
    have hlz : ((l.length : Int) == 0) = false := beq_eq_false_iff_ne.2 hl0
    clear hv hc hcm sl hve hcap tl hne hmn hl hm hlm h1 HV hl0
    go_enter Try.func6, Try.ntmps6
    go_wp2_with fail
    (with_reducible refine k1.mono ?_)
    rintro e w1 ⟨rfl, hb1⟩
    have k3 := K3.out w1 hb1
    clear k1
    go_wp2_with fail
    (with_reducible refine k3.mono ?_)
    rintro e w2 ⟨u, rfl, hu, hb2⟩
    have k4 := K4.out u _ w2 hu
    have B2 := hb1.trans (hb2.mono hb1.size)
    clear k3 hu hb1 hb2
    go_wp2_with fail
    (with_reducible refine k4.mono ?_)
    rintro e w3 ⟨rfl, hb3⟩
    have B3 := B2.trans (hb3.mono B2.size)
    clear k4 hb3 B2
    go_wp2_with fail
    (with_reducible refine (cs _).mono ?_)
    rintro e w4 ⟨rfl, hb4⟩
    have B4 := B3.trans (hb4.mono B3.size)
    clear hb4 B3
    go_wp2_with fail
    go_ret
    exact ⟨rfl, B4⟩
set_option maxRecDepth 100000 in
theorem lifted (os : Os) (started : os.Started) (H : Type) (enc : TypeId × Value → H) :
    ReturnsInHanded {} Try.checked os 6 .any (Rows.meetGrowsSpec.pre6 enc Try.prog Try.f6 Rows.meetGrowsRow.domain false) (Rows.meetGrowsSpec.post enc Try.prog Try.f6 false true false false) := by
  refine returnsInHanded_of_change (C := Try.checked) own started (by kernel_rfl) Try.func6
    (ChangeSpec.witness6 (enc := enc) (C := Try.checked) false ⟨#[], #[.slice none 0 0, .int .u8 0, .int .u32 0], []⟩ 8 (by kernel_rfl) (by kernel_rfl) (by kernel_rfl) (by kernel_rfl)) ?_
  intro W base args ds gs before hval0 hW hcnd _
  have hval : ∀ (j : Nat) t v, Try.f6.params[j]? = some t → args[j]? = some v → Value.okWide Try.prog W .any base t v := hval0
  have hW' := hW
  obtain ⟨p, q, hA0, hV, rfl, hfz, hnd⟩ := hW
  have hA : DataW.TrodAll enc Try.prog W 0 (fun _ => true) true Try.f6.params.toList args.toList ds p := hA0
  rw [Try.params6] at hA hval
  obtain ⟨v0, vs0, d0, ds0, p0, q0, hargs, rfl, rfl, h0, r0⟩ := trodAll_cons hA
  obtain ⟨v1, vs1, d1, ds1, p1, q1, rfl, rfl, rfl, h1, r1⟩ := trodAll_cons r0
  obtain ⟨v2, vs2, d2, ds2, p2, q2, rfl, rfl, rfl, h2, r2⟩ := trodAll_cons r1
  obtain ⟨rfl, rfl, rfl⟩ := trodAll_nil r2
  obtain rfl : args = #[v0, v1, v2] := by cases args; simp_all
  obtain ⟨rfl, rfl⟩ := trodVars_none hV
  have k0 := h0
  have lt0 : ∀ x ∈ p0, x.block < W.heap.size := by obtain ⟨m, hm⟩ := k0; exact DataW.trod_lt m _ _ _ hm
  obtain ⟨a0, len0, cap0, rfl⟩ := okWide_slice Try.underlying22 (hval 0 22 v0 rfl rfl)
  obtain ⟨z0, w0a, w0b, w0c⟩ : ∃ l : List Cd, SlAt (fun b => b < W.heap.size) 3 cdC W (.slice a0 len0 cap0) l ∧ (∀ f ∈ l, Cd.Typed f) ∧ l.length ≤ maxLen := by
    obtain ⟨fuel, hf⟩ := h0
    obtain ⟨v, l, hcs, h1, h2, h3⟩ := open_cds hf
    simp [Value.cells] at hcs
    subst hcs
    exact ⟨l, h1, h2, h3⟩
  have w0d : len0 ≤ cap0 ∧ cap0 ≤ maxLen := by
    obtain ⟨fuel, hf⟩ := k0
    exact cap_ok Try.underlying22 hf
  obtain ⟨a1, rfl, rfl, rfl, w1⟩ := open_int Try.underlying5 (hval 1 5 v1 rfl rfl) h1
  obtain ⟨a2, rfl, rfl, rfl, w2⟩ := open_int Try.underlying44 (hval 2 44 v2 rfl rfl) h2
  clear hA0 hval0
  refine (walk (.slice a0 len0 cap0) z0 a1 a2 W w0a w0b w0c _ _ _ rfl w0d w1 w2).mono fun e W' ⟨he, bel⟩ => ?_
  subst he
  exact ⟨_, rfl, _, _, _, [], _, [], hW', trodAll_mk1 (shut_bool Try.underlying4 _), (trodAll_cons_mk (Below.trod laidOut (by kernel_rfl) (of_decide_eq_true (by kernel_rfl)) k0 bel lt0) (trodAll_cons_mk (shut_int Try.underlying5 w1) (trodAll_cons_mk (shut_int Try.underlying44 w2) trodAll_mk0))), rfl, bel.frame _, fun h => by cases h⟩

theorem over : Rows.meetGrowsRow.holds Try.pinned (OpenSpec.ofChange Rows.meetGrowsSpec) :=
  OpenClaim.holds_of_wide 6 Try.f6 rfl rfl rfl rfl rfl rfl rfl ⟨rfl, rfl, rfl, rfl, rfl⟩ rfl rfl rfl rfl rfl (by kernel_rfl) Try.func6 (by kernel_rfl)
    (of_decide_eq_true (by kernel_rfl)) (by unfold Func.isWrapper; first | (rw [if_pos (by decide +kernel)]; kernel_rfl) | (rw [if_neg (by decide +kernel)]; exact ⟨rfl, rfl⟩))
    (fun os started H enc _ => lifted os started H enc)

theorem proved : Rows.MeetGrowsSaid := over
end Go.Proofs.Ytkbjmcgnjhpkiaa.MeetGrows
