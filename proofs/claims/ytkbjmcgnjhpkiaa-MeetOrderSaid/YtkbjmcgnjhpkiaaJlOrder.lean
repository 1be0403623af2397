/- MeetOrder: candidates in another order meet in the same span. No further condition. -/
import Derived.Test.YtkbjmcgnjhpkiaaMtZ
import Derived.WalkKit
import Derived.WalkSpells
import Derived.WalkLawsBesides
import Derived.Lib.Hide
import Derived.Handy
import Derived.ProofKit
import Derived.OpenShut
import Derived.ShutString
import Derived.ChangeOld
import Derived.Below
namespace Go.Proofs.Ytkbjmcgnjhpkiaa.MeetOrder
open Go.RowKit Go.Sort Go.Proofs.Ytkbjmcgnjhpkiaa.W
open Go.ChangeShapes Go.WideShapes Go.ChangeAt
open Go.ChangeMaps (open_string shut_string)
set_option linter.unusedVariables false
set_option linter.unusedSimpArgs false
theorem own : ownKnob Try.prog.godebug = none := by kernel_rfl
theorem laidOut : laidOutB Try.prog = true := by kernel_rfl
theorem two_in16 {w : World} {b : Nat} {x y : Value} {t : TypeId} (h : w.heap[b]? = some (.cells #[x, y] t (0, 0))) : w.cell? ⟨b, 0, none⟩ = some x ∧ w.cell? ⟨b, 1, none⟩ = some y := by constructor <;> simp [World.cell?, h]
set_option maxRecDepth 100000 in
set_option maxHeartbeats 25600000 in
theorem walk (v : Value) (l : List Cd) (k : Int) (w : World) (hv : SlAt (fun b => b < w.heap.size) 3 cdC w v l) (tl : ∀ c ∈ l, c.Typed) (hl : l.length ≤ maxLen) (vx : Option Addr) (n0 vc : Nat) (hve : v = .slice vx n0 vc) (hcap : n0 ≤ vc ∧ vc ≤ maxLen) (wk : (Lit.int .u8 k).wf = true) :
    Calls Try.prog 5 #[v, .int .u8 k] w fun e w' => e = .returned (.bool true) ∧ Below w.heap.size w w' := by
  have k0 := bounds_u8 wk
  obtain ⟨kn, rfl⟩ : ∃ kn : Nat, k = (kn : Int) := ⟨k.toNat, by omega⟩
  clear wk
  obtain ⟨i0, hi0, hz0, hz1, hz2⟩ := info_parts info_cd
  have hm : l.length ≤ 9223372036854775807 := by unfold maxLen at hl; omega
  have cs := shown16_any
  have HV := Lib.hid hv
  obtain ⟨sx, sc, hve'⟩ := hv.slice
  obtain ⟨rfl, rfl, rfl⟩ : sx = vx ∧ l.length = n0 ∧ sc = vc := by rw [hve'] at hve; exact Value.slice.inj hve
  subst hve'
  have k1 := mchk_any l tl w hv (fun b hb => hb)
  by_cases hc : chkC l = 0
  · skip
    rw [hc] at k1
    have h10 : l.length ≤ 10 := by
      unfold chkC at hc
      split at hc
      · cases hc
      · rename_i g
        omega
    have hok : ∀ c ∈ l, c.Ok := by
      unfold chkC at hc
      split at hc
      · cases hc
      · rename_i g
        intro c hcm
        exact Classical.byContradiction fun hn => g (.inr ⟨c, hcm, hn⟩)
    have i10 : ¬ (10 : Int) < l.length := by omega
    have KD := Lib.hid (fun x x0 W (hB : Below w.heap.size w W) => mdep_any l tl hc x x0 W (HV.out.kept hB.block) (fun b hb => Nat.lt_of_lt_of_le hb hB.size))
    have KJ := Lib.hid (fun W (hB : Below w.heap.size w W) => mmaj_any l tl hc W (HV.out.kept hB.block) (fun b hb => Nat.lt_of_lt_of_le hb hB.size))
    have KM := Lib.hid (fun W (hB : Below w.heap.size w W) => mmeet_any l tl hc W (HV.out.kept hB.block) (fun b hb => Nat.lt_of_lt_of_le hb hB.size))
    have KS := Lib.hid (fun W (hB : Below w.heap.size w W) => msel_any l tl hc W (HV.out.kept hB.block) (fun b hb => Nat.lt_of_lt_of_le hb hB.size))
    have hP := rot_perm l kn
    have hmf := meet_perm hP
    have hjf := maj_perm hP
    have hal := allow_perm hP
    have hcT0 := (chk_perm hP).trans hc
    have TT := Lib.hid (show (∀ c ∈ rotT l kn l.length, c.Typed) ∧ chkC (rotT l kn l.length) = 0 from ⟨fun c h => tl c (hP.mem_iff.1 h), hcT0⟩)
    generalize hA0 : spLo ((meetF l).map (·.1)) = A0 at *
    generalize hA1 : spHi ((meetF l).map (·.1)) = A1 at *
    generalize hK0 : allowI l = K0 at *
    generalize hI0 : (meetF l).isSome = I0 at *
    generalize hC0 : spLo (majF l) = C0 at *
    generalize hC1 : spHi (majF l) = C1 at *
    generalize hJ0 : (majF l).isSome = J0 at *
    have MT := Lib.hid (And.intro hmf (And.intro hjf hal))
    have MI := Lib.hid (And.intro hA0 (And.intro hA1 (And.intro hK0 (And.intro hI0 (And.intro hC0 (And.intro hC1 hJ0))))))
    clear hA0 hA1 hK0 hI0 hC0 hC1 hJ0 hmf hjf hal KD KS hok hc hv hve hcap hl tl hcT0 hP
    go_enter Try.func5, Try.ntmps5
    go_wp2_with fail
    (with_reducible refine k1.mono ?_)
    rintro e w1 ⟨rfl, B1⟩
    clear k1
    go_wp2_with fail
    (with_reducible refine (cs _).mono ?_)
    rintro e w2 ⟨rfl, hb2⟩
    have B2 := B1.trans (hb2.mono B1.size)
    clear hb2 B1
    have BW2 := Lib.hid B2
    have l2 := B2.size
    have ownS := ownsRow_fresh w2 41 3 w2.heap.size (Nat.le_refl _)
    have bS := (Below.refl w2.heap.size w2).alloc (Nat.le_refl _) (.cells #[] 41)
    clear B2
    go_wp2_with fail
    go_loopw [5, 6] (fun o i wr => ∃ q : Nat, q ≤ l.length ∧ i = .int .i64 (q : Int) ∧ wr.ownsRow w2.heap.size 41 3 o (rotT l kn q).length ((rotT l kn q).flatMap cdC) ∧ Below w2.heap.size w2 wr) (fun _ i _ => l.length - (intOf i).toNat)
    case atStart => exact ⟨0, Nat.zero_le _, rfl, ownS, bS⟩
    case round =>
      obtain ⟨q, hq, rfl, own, hB⟩ := hrel
      clear ownS bS
      have z1 := hB.size
      have hrl := rot_length l kn q
      have OL := Lib.hid own
      rw [hrl] at own
      by_cases hlt : q < l.length
      · obtain ⟨j, hj⟩ : ∃ j, (q + kn) % l.length = j := ⟨_, rfl⟩
        have hjl : j < l.length := by rw [← hj]; exact Nat.mod_lt _ (by omega)
        obtain ⟨s, hsn⟩ : ∃ s, l[j]? = some s := ⟨_, List.getElem?_eq_getElem hjl⟩
        have hst := rot_step (l := l) (k := kn) (q := q) (c := s) (by rw [hj]; exact hsn)
        have i1 : (q : Int) < l.length := by omega
        have i0' : (0 : Int) ≤ (q : Int) := by omega
        have hwr : IntKind.i64.wrap ((q : Int) + (kn : Int)) = (q : Int) + (kn : Int) := by rw [IntKind.wrap_i64]; omega
        have hwk : IntKind.i64.wrap (kn : Int) = (kn : Int) := by rw [IntKind.wrap_i64]; omega
        have hrem : Int.tmod ((q : Int) + (kn : Int)) (l.length : Int) = (j : Int) := by rw [← hj]; rfl
        have hwj : IntKind.i64.wrap (j : Int) = (j : Int) := by rw [IntKind.wrap_i64]; omega
        have hn0 : ¬ (l.length : Int) = 0 := by omega
        have j0 : (0 : Int) ≤ (j : Int) := by omega
        have j1 : (j : Int) < (l.length : Int) := by omega
        rcases HV.out with ⟨_, _, _, _, hnil⟩ | ⟨bl, ol, cl, hvl, hFl, cl'⟩
        · rw [hnil] at hlt
          simp at hlt
        have hlx := (Value.slice.inj hvl).1
        subst hlx
        obtain ⟨x0, x1, x2⟩ := cd_at (w := wr) (b := bl) (q := ol + j * 3) (c := s) (fun j' u hu => by
          rw [hB.cell (Nat.lt_of_lt_of_le hFl l2), BW2.out.cell hFl]
          exact cl' j s hsn j' u hu)
        have TK := Lib.hid hst
        clear hst cl' hvl hFl hsn hj hrl
        go_wp2_with (at_builtin; refine wpList_append_own _ rfl _ _ 22 rfl w2.heap.size 41 i0 _ 3 24 Try.underlying22 hi0 hz0 hz1 hz2 rfl (by decide) _ _ _ rfl (own.alloc _) ⟨wr.heap.size, 0, none⟩ 1 1 (cdC s) rfl rfl (cd_row _ _ _) (cdC_one s) (by unfold maxLen; omega) (by omega) (by first | (rw [World.size_alloc]; omega) | (simp; omega)) ?_; intro v4 w4 hown4 hgrow4 _; have own4 : w4.ownsRow w2.heap.size 41 3 v4 (rotT l kn (q + 1)).length ((rotT l kn (q + 1)).flatMap cdC) := (by rw [TK.out, List.flatMap_append, List.length_append, rot_length]; simpa using hown4); have B4 := (hB.alloc (by omega) (.cells (cdA s) 41)).grown hgrow4 (by first | (rw [World.size_alloc]; omega) | (simp; omega)) (fun g hg => by have := (own.lt g hg).1; omega); have z4 := B4.size)
        go_roundw
        case rel => exact ⟨q + 1, by omega, by go_num, own4, B4⟩
        case measure => simp [intOf]; omega
      · have eq : q = l.length := by omega
        subst eq
        generalize wr = wo at *
        have hT := SlAt.own cdC_length OL.out
        obtain ⟨tx, tc, rfl⟩ := hT.slice
        rw [hrl] at hT ⊢
        have XM := Lib.hid (fun W (h : Below wo.heap.size wo W) => mmeet_any (rotT l kn l.length) TT.out.1 TT.out.2 W (hT.kept (fun b hb => h.block b hb.2)) (fun b hb => Nat.lt_of_lt_of_le hb.2 h.size))
        have XJ := Lib.hid (fun W (h : Below wo.heap.size wo W) => mmaj_any (rotT l kn l.length) TT.out.1 TT.out.2 W (hT.kept (fun b hb => h.block b hb.2)) (fun b hb => Nat.lt_of_lt_of_le hb.2 h.size))
        rw [MT.out.2.2, MT.out.1, MI.out.1, MI.out.2.1, MI.out.2.2.2.1] at XM
        rw [MT.out.2.1, MI.out.2.2.2.2.1, MI.out.2.2.2.2.2.1, MI.out.2.2.2.2.2.2] at XJ
        have BR := Below.refl wo.heap.size wo
        have BW := BW2.out.trans (hB.mono l2)
        clear own hT hB hrl OL
        have kk := KM.out _ BW
        go_wp2_with fail
        (with_reducible refine kk.mono ?_)
        rintro e w3 ⟨rfl, hb⟩
        replace BR := BR.trans (hb.mono BR.size)
        replace BW := BW.trans (hb.mono BW.size)
        clear hb kk
        have hp := heap_alloc_new w3 (.cells #[.int .i64 A0, .int .i64 A1] 31)
        replace BR := BR.alloc BR.size (.cells #[.int .i64 A0, .int .i64 A1] 31)
        replace BW := BW.alloc BW.size (.cells #[.int .i64 A0, .int .i64 A1] 31)
        go_upto_region 9 with fail
        generalize w3.alloc (.cells #[.int .i64 A0, .int .i64 A1] 31) = w4 at *
        have kk := XM.out _ BR
        go_wp2_with fail
        (with_reducible refine kk.mono ?_)
        rintro e w5 ⟨rfl, hb⟩
        replace hp := kept hp hb
        replace BR := BR.trans (hb.mono BR.size)
        replace BW := BW.trans (hb.mono BW.size)
        clear hb kk
        replace hp := laid (.cells #[.int .i64 A0, .int .i64 A1] 31) hp
        have hr := heap_alloc_new w5 (.cells #[.int .i64 A0, .int .i64 A1] 31)
        replace BR := BR.alloc BR.size (.cells #[.int .i64 A0, .int .i64 A1] 31)
        replace BW := BW.alloc BW.size (.cells #[.int .i64 A0, .int .i64 A1] 31)
        go_upto_region 10 with fail
        generalize w5.alloc (.cells #[.int .i64 A0, .int .i64 A1] 31) = w6 at *
        have kk := KJ.out _ BW
        go_wp2_with fail
        (with_reducible refine kk.mono ?_)
        rintro e w7 ⟨rfl, hb⟩
        replace hp := kept hp hb
        replace hr := kept hr hb
        replace BR := BR.trans (hb.mono BR.size)
        replace BW := BW.trans (hb.mono BW.size)
        clear hb kk
        replace hp := laid (.cells #[.int .i64 C0, .int .i64 C1] 31) hp
        replace hr := laid (.cells #[.int .i64 C0, .int .i64 C1] 31) hr
        have hs := heap_alloc_new w7 (.cells #[.int .i64 C0, .int .i64 C1] 31)
        replace BR := BR.alloc BR.size (.cells #[.int .i64 C0, .int .i64 C1] 31)
        replace BW := BW.alloc BW.size (.cells #[.int .i64 C0, .int .i64 C1] 31)
        go_upto_region 11 with fail
        generalize w7.alloc (.cells #[.int .i64 C0, .int .i64 C1] 31) = w8 at *
        have kk := XJ.out _ BR
        go_wp2_with fail
        (with_reducible refine kk.mono ?_)
        rintro e w9 ⟨rfl, hb⟩
        replace hp := kept hp hb
        replace hr := kept hr hb
        replace hs := kept hs hb
        replace BR := BR.trans (hb.mono BR.size)
        replace BW := BW.trans (hb.mono BW.size)
        clear hb kk
        replace hp := laid (.cells #[.int .i64 C0, .int .i64 C1] 31) hp
        replace hr := laid (.cells #[.int .i64 C0, .int .i64 C1] 31) hr
        replace hs := laid (.cells #[.int .i64 C0, .int .i64 C1] 31) hs
        have ht := heap_alloc_new w9 (.cells #[.int .i64 C0, .int .i64 C1] 31)
        replace BR := BR.alloc BR.size (.cells #[.int .i64 C0, .int .i64 C1] 31)
        replace BW := BW.alloc BW.size (.cells #[.int .i64 C0, .int .i64 C1] 31)
        go_upto_region 12 with fail
        generalize w9.alloc (.cells #[.int .i64 C0, .int .i64 C1] 31) = w10 at *
        obtain ⟨hp0, hp1⟩ := two_in16 hp
        obtain ⟨hr0, hr1⟩ := two_in16 hr
        obtain ⟨hs0, hs1⟩ := two_in16 hs
        obtain ⟨ht0, ht1⟩ := two_in16 ht
        have HB := Lib.hid BW
        clear BW BR hp hr hs ht
        go_wp2_with fail
        go_ret
        exact ⟨by first | rfl | simp, HB.out⟩
  · skip
    have h1 : chkC l = 1 := by
      unfold chkC at hc ⊢
      split
      · rfl
      · rename_i g
        exact absurd (if_neg g) hc
    rw [h1] at k1
    have hne : l ≠ [] := by
      rintro rfl
      exact hc (by unfold chkC; rw [if_neg]; simp)
    obtain ⟨m, hmn⟩ : ∃ m : Nat, min l.length 20 = m := ⟨_, rfl⟩
    have hmn' : min (l.length : Int) 20 = (m : Int) := by omega
    have rm := fun ts t W => run_min16 (l.length : Int) 20 m hmn' ts t W
    obtain ⟨rs, sl⟩ := cut16 HV.out hne hcap.1 (m := m) (by omega)
    have hcm : chkC (l.take m) = 1 := by
      by_cases h10 : 10 < l.length
      · unfold chkC
        rw [if_pos (.inl (by rw [List.length_take]; omega))]
      · rw [List.take_of_length_le (by omega), h1]
    have hlm : (l.take m).length ≤ 100000 := by rw [List.length_take]; omega
    have K3 := Lib.hid (fun W (hB : Below w.heap.size w W) => theirs16_any (l.take m) hlm (F := fun b => b < w.heap.size) (v := .slice sx m sc) W (sl.kept hB.block) (fun b hb => Nat.lt_of_lt_of_le hb hB.size))
    have K4 := Lib.hid (fun (u : Value) (B : Nat) W (hs : SlAt (fun b => B ≤ b ∧ b < W.heap.size) 3 cdC W u (l.take m)) => rchk16_any (l.take m) hlm W hs (fun b hb => hb.2))
    rw [hcm] at K4
    have hl0 : (l.length : Int) ≠ 0 := by have := List.length_pos_iff.2 hne; omega
    have hlz : ((l.length : Int) == 0) = false := beq_eq_false_iff_ne.2 hl0
    clear hv hc hcm sl hve hcap tl hne hmn hl hm hlm h1 HV hl0
    go_enter Try.func5, Try.ntmps5
    go_wp2_with fail
    (with_reducible refine k1.mono ?_)
    rintro e w1 ⟨rfl, hb1⟩
    have k3 := K3.out w1 hb1
    clear k1
    go_wp2_with fail
    (with_reducible refine k3.mono ?_)
    rintro e w2 ⟨u, rfl, hu, hb2⟩
    have k4 := K4.out u _ w2 hu
    have B2 := hb1.trans (hb2.mono hb1.size)
    clear k3 hu hb1 hb2
    go_wp2_with fail
    (with_reducible refine k4.mono ?_)
    rintro e w3 ⟨rfl, hb3⟩
    have B3 := B2.trans (hb3.mono B2.size)
    clear k4 hb3 B2
    go_wp2_with fail
    (with_reducible refine (cs _).mono ?_)
    rintro e w4 ⟨rfl, hb4⟩
    have B4 := B3.trans (hb4.mono B3.size)
    clear hb4 B3
    go_wp2_with fail
    go_ret
    exact ⟨rfl, B4⟩
set_option maxRecDepth 100000 in
theorem lifted (os : Os) (started : os.Started) (H : Type) (enc : TypeId × Value → H) :
    ReturnsInHanded {} Try.checked os 5 .any (Rows.meetOrderSpec.pre6 enc Try.prog Try.f5 Rows.meetOrderRow.domain false) (Rows.meetOrderSpec.post enc Try.prog Try.f5 false true false false) := by
  refine returnsInHanded_of_change (C := Try.checked) own started (by kernel_rfl) Try.func5
    (ChangeSpec.witness6 (enc := enc) (C := Try.checked) false ⟨#[], #[.slice none 0 0, .int .u8 0], []⟩ 8 (by kernel_rfl) (by kernel_rfl) (by kernel_rfl) (by kernel_rfl)) ?_
  intro W base args ds gs before hval0 hW hcnd _
  have hval : ∀ (j : Nat) t v, Try.f5.params[j]? = some t → args[j]? = some v → Value.okWide Try.prog W .any base t v := hval0
  have hW' := hW
  obtain ⟨p, q, hA0, hV, rfl, hfz, hnd⟩ := hW
  have hA : DataW.TrodAll enc Try.prog W 0 (fun _ => true) true Try.f5.params.toList args.toList ds p := hA0
  rw [Try.params5] at hA hval
  obtain ⟨v0, vs0, d0, ds0, p0, q0, hargs, rfl, rfl, h0, r0⟩ := trodAll_cons hA
  obtain ⟨v1, vs1, d1, ds1, p1, q1, rfl, rfl, rfl, h1, r1⟩ := trodAll_cons r0
  obtain ⟨rfl, rfl, rfl⟩ := trodAll_nil r1
  obtain rfl : args = #[v0, v1] := by cases args; simp_all
  obtain ⟨rfl, rfl⟩ := trodVars_none hV
  have k0 := h0
  have lt0 : ∀ x ∈ p0, x.block < W.heap.size := by obtain ⟨m, hm⟩ := k0; exact DataW.trod_lt m _ _ _ hm
  obtain ⟨a0, len0, cap0, rfl⟩ := okWide_slice Try.underlying22 (hval 0 22 v0 rfl rfl)
  obtain ⟨z0, w0a, w0b, w0c⟩ : ∃ l : List Cd, SlAt (fun b => b < W.heap.size) 3 cdC W (.slice a0 len0 cap0) l ∧ (∀ f ∈ l, Cd.Typed f) ∧ l.length ≤ maxLen := by
    obtain ⟨fuel, hf⟩ := h0
    obtain ⟨v, l, hcs, h1, h2, h3⟩ := open_cds hf
    simp [Value.cells] at hcs
    subst hcs
    exact ⟨l, h1, h2, h3⟩
  have w0d : len0 ≤ cap0 ∧ cap0 ≤ maxLen := by
    obtain ⟨fuel, hf⟩ := k0
    exact cap_ok Try.underlying22 hf
  obtain ⟨a1, rfl, rfl, rfl, w1⟩ := open_int Try.underlying5 (hval 1 5 v1 rfl rfl) h1
  clear hA0 hval0
  refine (walk (.slice a0 len0 cap0) z0 a1 W w0a w0b w0c _ _ _ rfl w0d w1).mono fun e W' ⟨he, bel⟩ => ?_
  subst he
  exact ⟨_, rfl, _, _, _, [], _, [], hW', trodAll_mk1 (shut_bool Try.underlying4 _), (trodAll_cons_mk (Below.trod laidOut (by kernel_rfl) (of_decide_eq_true (by kernel_rfl)) k0 bel lt0) (trodAll_cons_mk (shut_int Try.underlying5 w1) trodAll_mk0)), rfl, bel.frame _, fun h => by cases h⟩

theorem over : Rows.meetOrderRow.holds Try.pinned (OpenSpec.ofChange Rows.meetOrderSpec) :=
  OpenClaim.holds_of_wide 5 Try.f5 rfl rfl rfl rfl rfl rfl rfl ⟨rfl, rfl, rfl, rfl, rfl⟩ rfl rfl rfl rfl rfl (by kernel_rfl) Try.func5 (by kernel_rfl)
    (of_decide_eq_true (by kernel_rfl)) (by unfold Func.isWrapper; first | (rw [if_pos (by decide +kernel)]; kernel_rfl) | (rw [if_neg (by decide +kernel)]; exact ⟨rfl, rfl⟩))
    (fun os started H enc _ => lifted os started H enc)

theorem proved : Rows.MeetOrderSaid := over
end Go.Proofs.Ytkbjmcgnjhpkiaa.MeetOrder
