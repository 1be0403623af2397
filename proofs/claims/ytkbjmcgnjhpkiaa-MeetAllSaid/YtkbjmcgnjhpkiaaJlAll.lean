/- MeetAll: spans that all have one number in them meet without a falseticker, if their middles are there too; the span is what they have together. No further condition. -/
import Derived.Test.YtkbjmcgnjhpkiaaMtZ
import Derived.WalkKit
import Derived.WalkSpells
import Derived.WalkLawsBesides
import Derived.Lib.Hide
import Derived.Handy
import Derived.ProofKit
import Derived.OpenShut
import Derived.ShutString
import Derived.ChangeOld
import Derived.Below
import Derived.Test.YtkbjmcgnjhpkiaaFixJ
import Derived.Test.YtkbjmcgnjhpkiaaRowS
import Derived.Deep.AppendLies
import Derived.Deep.SlicePairs
namespace Go.Proofs.Ytkbjmcgnjhpkiaa.MeetAll
open Go.RowKit Go.Sort Go.Proofs.Ytkbjmcgnjhpkiaa.W
open Go.ChangeShapes Go.WideShapes Go.ChangeAt
open Go.ChangeMaps (open_string shut_string)
set_option linter.unusedVariables false
set_option linter.unusedSimpArgs false
theorem own : ownKnob Try.prog.godebug = none := by kernel_rfl
theorem laidOut : laidOutB Try.prog = true := by kernel_rfl
theorem two_in16 {w : World} {b : Nat} {x y : Value} {t : TypeId} (h : w.heap[b]? = some (.cells #[x, y] t (0, 0))) : w.cell? ⟨b, 0, none⟩ = some x ∧ w.cell? ⟨b, 1, none⟩ = some y := by constructor <;> simp [World.cell?, h]
set_option maxRecDepth 100000 in
set_option maxHeartbeats 25600000 in
theorem walk (a1 : Option Addr) (len1 cap1 : Nat) (zs : List Int) (at_ : Int) (w : World) (w1 : IsRow .u16 w a1 len1 cap1 zs) (wa : (Lit.int .i32 at_).wf = true) :
    Calls Try.prog 7 #[.slice a1 len1 cap1, .int .i32 at_] w fun e w' => e = .returned (.bool true) ∧ Below w.heap.size w w' := by
  have k1 := bounds_i32 wa
  obtain ⟨z, rfl, hz, iv⟩ := w1.sl
  clear w1 wa
  obtain ⟨i0, hi0, hz0, hz1, hz2⟩ := info_parts info_cd
  have cs := shown16_any
  have hzb : ∀ b ∈ z, 0 ≤ b ∧ b ≤ 65535 := fun b hb => by have := u16_bounds (hz b hb); omega
  clear hz
  by_cases h10 : 10 < z.length
  · have i10 : (10 : Int) < (z.length : Int) := by omega
    go_enter Try.func7, Try.ntmps7
    go_wp2_with fail
    (with_reducible refine (cs _).mono ?_)
    rintro e w1 ⟨rfl, B1⟩
    go_wp2_with fail
    go_ret
    exact ⟨rfl, B1⟩
  have i10 : ¬ (10 : Int) < (z.length : Int) := by omega
  rcases Nat.eq_zero_or_pos z.length with he | he
  · have hlz : ((z.length : Int) == 0) = true := beq_iff_eq.2 (by omega)
    clear he h10 iv hzb
    go_enter Try.func7, Try.ntmps7
    go_wp2_with fail
    (with_reducible refine (cs _).mono ?_)
    rintro e w1 ⟨rfl, B1⟩
    go_wp2_with fail
    go_ret
    exact ⟨rfl, B1⟩
  have hlz : ((z.length : Int) == 0) = false := beq_eq_false_iff_ne.2 (by omega)
  have hne : z ≠ [] := by intro e; rw [e] at he; exact absurd he (by simp)
  have hww : IntKind.i64.wrap at_ = at_ := by rw [IntKind.wrap_i64]; omega
  obtain ⟨mM, mS⟩ := al_meet (at_ := at_) hzb hne
  have hcT := al_chk (at_ := at_) hzb (by omega)
  have hnr := nar_range hzb
  have hnb := (hzb _ (nar_is hzb hne).1)
  have TT := Lib.hid (show ∀ c ∈ alL at_ z, c.Typed from fun c hc => by
    obtain ⟨b, hb, rfl⟩ := List.mem_map.1 hc
    have := hzb b hb
    refine ⟨?_, ?_, ?_⟩ <;> (unfold alC; dsimp only; omega))
  have HZ := Lib.hid hzb
  have HIV := Lib.hid iv
  have HM := Lib.hid (And.intro mM (And.intro mS hcT))
  rcases HIV.out with ⟨_, _, _, _, hnil⟩ | ⟨bl, ol, cl, hvl, hFl, cl'⟩
  · exact absurd hnil hne
  have hlx := (Value.slice.inj hvl).1
  subst hlx
  have CL := Lib.hid cl'
  clear mM mS hcT hzb iv hvl cl' hne
  go_enter Try.func7, Try.ntmps7
  go_wp2_with fail
  (with_reducible refine (cs _).mono ?_)
  rintro e w2 ⟨rfl, B2⟩
  have l2 := B2.size
  have lb2 := Nat.lt_of_lt_of_le hFl l2
  have HB2 := Lib.hid B2
  have ownS := ownsRow_fresh w2 41 3 w2.heap.size (Nat.le_refl _)
  have bS := (Below.refl w2.heap.size w2).alloc (Nat.le_refl _) (.cells #[] 41)
  clear B2
  go_wp2_with fail
  go_loopw [5, 6, 7] (fun o nr i wr => ∃ q : Nat, q ≤ z.length ∧ i = .int .i64 (q : Int) ∧ nr = .int .i64 (narI (z.take q)) ∧ wr.ownsRow w2.heap.size 41 3 o (alL at_ (z.take q)).length ((alL at_ (z.take q)).flatMap cdC) ∧ Below w2.heap.size w2 wr) (fun _ _ i _ => z.length - (intOf i).toNat)
  case atStart => exact ⟨0, Nat.zero_le _, rfl, rfl, ownS, bS⟩
  case round =>
    obtain ⟨q, hq, rfl, rfl, own, hB⟩ := hrel
    clear ownS bS
    have z1 := hB.size
    have hrl : (alL at_ (z.take q)).length = q := by rw [al_length, List.length_take]; omega
    have OL := Lib.hid own
    rw [hrl] at own
    by_cases hlt : q < z.length
    · obtain ⟨x, hx⟩ : ∃ x, z[q]? = some x := ⟨_, List.getElem?_eq_getElem hlt⟩
      have hxb := HZ.out x (List.mem_of_getElem? hx)
      have i1 : (q : Int) < z.length := by omega
      have i0' : (0 : Int) ≤ (q : Int) := by omega
      have htk : z.take (q + 1) = z.take q ++ [x] := by
        obtain ⟨h1, rfl⟩ := List.getElem?_eq_some_iff.1 hx
        exact List.take_succ_eq_append_getElem h1
      have hst := al_snoc at_ (z.take q) x
      rw [← htk] at hst
      have hnn := nar_snoc (z.take q) x
      rw [← htk] at hnn
      have hnq := nar_range (z := z.take q) (fun b hb => HZ.out b (List.mem_of_mem_take hb))
      have m1 : IntKind.i64.wrap x = x := by rw [IntKind.wrap_i64]; omega
      have m2 : IntKind.i64.wrap (at_ - x) = at_ - x := by rw [IntKind.wrap_i64]; omega
      have m3 : IntKind.i64.wrap (at_ + x) = at_ + x := by rw [IntKind.wrap_i64]; omega
      have hcell : wr.cell? ⟨bl, ol + q, none⟩ = some (.int .u16 x) := by
        rw [hB.cell lb2, HB2.out.cell hFl]
        have := CL.out q x hx 0 _ rfl
        simpa using this
      have rm := fun ts t W => run_min16 (narI (z.take q)) x _ hnn.symm ts t W
      have TK := Lib.hid (And.intro hst htk)
      have hap := own_apart own lb2
      have hbl : bl < wr.heap.size := Nat.lt_of_lt_of_le lb2 z1
      generalize hN1 : narI (z.take (q + 1)) = N1 at *
      have HN1 := Lib.hid hN1
      clear hN1
      generalize narI (z.take q) = N0 at *
      have HRL := Lib.hid hrl
      clear hst htk hx hrl hnn
      go_wp2_with fail
      go_region_held3 (fun w' => w'.cell? ⟨bl, ol + q, none⟩ = some (.int .u16 x))
        (first
          | go_keep
          | (go_split_ands
             (rw [hgrow.cell_far _ (by simp; omega) (Ne.symm hap)]; assumption)))
        (first
          | (refine step_append_lies _ (by rfl) _ _ _ (by rfl) w2.heap.size 41 i0 _ 3 24 Try.underlying22 hi0 hz0 hz1 hz2 rfl (by decide) _ q ((alL at_ (z.take q)).flatMap cdC) (by rfl) ((own.alloc _).drew)
                ⟨wr.heap.size, 0, none⟩ 1 1 (cdC (alC at_ x)) (by rfl) (by rfl) (World.news_of_block (cs := cdA (alC at_ x)) (t := 41) (fr := (0, 0)) (heap_alloc_new wr _)) (cdC_one _) (by omega) (by unfold maxLen; omega) (by omega) (by simp; omega) (wr.heap.size + 1) (by simp) ?_; intro gg cp w4 hown4 hgrow hat hglt))
      have own4 : w4.ownsRow w2.heap.size 41 3 (.slice (some ⟨gg, 0, none⟩) (q + 1) cp) (alL at_ (z.take (q + 1))).length ((alL at_ (z.take (q + 1))).flatMap cdC) := by
        rw [TK.out.1, List.flatMap_append, List.length_append, HRL.out]
        simpa using hown4
      have B4 : Below w2.heap.size w2 w4 := ((hB.alloc z1 _).drew).grown hgrow (by simp; omega) (fun g hg => (own.lt g hg).1)
      have OO := Lib.hid (And.intro own4 B4)
      clear hgrow hat hap own hown4 own4 B4 hcell OL
      go_wp2_with fail
      go_roundw
      case rel => exact ⟨q + 1, by omega, by go_num, by rw [HN1.out], OO.out.1, OO.out.2⟩
      case measure => simp [intOf]; omega
    · have eq : q = z.length := by omega
      subst eq
      generalize wr = wo at *
      have hT := SlAt.own cdC_length OL.out
      obtain ⟨tx, tc, rfl⟩ := hT.slice
      rw [hrl] at hT ⊢
      rw [List.take_length] at hT ⊢
      obtain ⟨hM1, hM4, hcT⟩ := HM.out
      have hA1 : allowI (alL at_ z) = 0 := by unfold allowI; rw [hM1]; rfl
      have hM3 : spanF (alL at_ z) = some (at_ - narI z, at_ + narI z) := by unfold spanF; rw [hM1]
      have wn1 : IntKind.i64.wrap (at_ - narI z) = at_ - narI z := by rw [IntKind.wrap_i64]; omega
      have wn2 : IntKind.i64.wrap (at_ + narI z) = at_ + narI z := by rw [IntKind.wrap_i64]; omega
      have XM : ∀ W, Below wo.heap.size wo W → Calls Try.prog 16 #[.slice tx z.length tc] W fun e w' => e = .returned (.tuple #[.agg #[.int .i64 (at_ - narI z), .int .i64 (at_ + narI z)], .int .i64 0, .bool true]) ∧ Below W.heap.size W w' := fun W h => by
        have q := mmeet_any (alL at_ z) TT.out hcT W (hT.kept (fun b hb => h.block b hb.2)) (fun b hb => Nat.lt_of_lt_of_le hb.2 h.size)
        rw [hM1, hA1] at q
        exact q
      have XS : ∀ W, Below wo.heap.size wo W → Calls Try.prog 15 #[.slice tx z.length tc] W fun e w' => ∃ u, e = .returned (.tuple #[.agg #[.int .i64 (at_ - narI z), .int .i64 (at_ + narI z)], u, .bool true]) ∧ SlAt (fun b => W.heap.size ≤ b ∧ b < w'.heap.size) 1 plE w' u (List.range z.length) ∧ Below W.heap.size W w' := fun W h => by
        have q := msel_any (alL at_ z) TT.out hcT W (hT.kept (fun b hb => h.block b hb.2)) (fun b hb => Nat.lt_of_lt_of_le hb.2 h.size)
        rw [hM3, hM4] at q
        exact q
      have HX := Lib.hid (And.intro XM XS)
      have BR := Below.refl wo.heap.size wo
      have BW := HB2.out.trans (hB.mono l2)
      clear XM XS hT own hB hM1 hM3 hM4 hA1 hcT hrl OL
      generalize narI z = N at *
      have kk := HX.out.1 _ BR
      go_wp2_with fail
      (with_reducible refine kk.mono ?_)
      rintro e w3 ⟨rfl, hb⟩
      replace BR := (BR.trans (hb.mono BR.size))
      replace BW := (BW.trans (hb.mono BW.size))
      clear hb kk
      have hr := heap_alloc_new w3 (.cells #[.int .i64 (at_ - N), .int .i64 (at_ + N)] 31)
      replace BR := BR.alloc BR.size (.cells #[.int .i64 (at_ - N), .int .i64 (at_ + N)] 31)
      replace BW := BW.alloc BW.size (.cells #[.int .i64 (at_ - N), .int .i64 (at_ + N)] 31)
      go_upto_region 11 with fail
      generalize w3.alloc (.cells #[.int .i64 (at_ - N), .int .i64 (at_ + N)] 31) = w4 at *
      have kk := HX.out.2 _ BR
      go_wp2_with fail
      (with_reducible refine kk.mono ?_)
      rintro e w5 ⟨u, rfl, hu, hb⟩
      obtain ⟨ux, uc, rfl⟩ := hu.slice
      rw [List.length_range]
      replace hr := laid (.cells #[.int .i64 (at_ - N), .int .i64 (at_ + N)] 31) (kept hr hb)
      replace BW := (BW.trans (hb.mono BW.size))
      have HBW := Lib.hid (BW.alloc BW.size (.cells #[.int .i64 (at_ - N), .int .i64 (at_ + N)] 31))
      clear hu hb kk BR BW
      go_upto_region 12 with fail
      generalize w5.alloc (.cells #[.int .i64 (at_ - N), .int .i64 (at_ + N)] 31) = w6 at *
      obtain ⟨r0, r1⟩ := two_in16 hr
      clear hr
      go_wp2_with fail
      go_ret
      exact ⟨by first | rfl | simp, HBW.out⟩
set_option maxRecDepth 100000 in
theorem lifted (os : Os) (started : os.Started) (H : Type) (enc : TypeId × Value → H) :
    ReturnsInHanded {} Try.checked os 7 .any (Rows.meetAllSpec.pre6 enc Try.prog Try.f7 Rows.meetAllRow.domain false) (Rows.meetAllSpec.post enc Try.prog Try.f7 false true false false) := by
  refine returnsInHanded_of_change (C := Try.checked) own started (by kernel_rfl) Try.func7
    (ChangeSpec.witness6 (enc := enc) (C := Try.checked) false ⟨#[], #[.slice none 0 0, .int .i32 0], []⟩ 8 (by kernel_rfl) (by kernel_rfl) (by kernel_rfl) (by kernel_rfl)) ?_
  intro W base args ds gs before hval0 hW hcnd _
  have hval : ∀ (j : Nat) t v, Try.f7.params[j]? = some t → args[j]? = some v → Value.okWide Try.prog W .any base t v := hval0
  have hW' := hW
  obtain ⟨p, q, hA0, hV, rfl, hfz, hnd⟩ := hW
  have hA : DataW.TrodAll enc Try.prog W 0 (fun _ => true) true Try.f7.params.toList args.toList ds p := hA0
  rw [Try.params7] at hA hval
  obtain ⟨v0, vs0, d0, ds0, p0, q0, hargs, rfl, rfl, h0, r0⟩ := trodAll_cons hA
  obtain ⟨v1, vs1, d1, ds1, p1, q1, rfl, rfl, rfl, h1, r1⟩ := trodAll_cons r0
  obtain ⟨rfl, rfl, rfl⟩ := trodAll_nil r1
  obtain rfl : args = #[v0, v1] := by cases args; simp_all
  obtain ⟨rfl, rfl⟩ := trodVars_none hV
  obtain ⟨a0, len0, cap0, rfl⟩ := okWide_slice Try.underlying46 (hval 0 46 v0 rfl rfl)
  have k0 := h0
  have lt0 : ∀ x ∈ p0, x.block < W.heap.size := by obtain ⟨m, hm⟩ := k0; exact DataW.trod_lt m _ _ _ hm
  obtain ⟨z0, w0⟩ : ∃ zs, IsRow .u16 W a0 len0 cap0 zs := by
    obtain ⟨fuel, hf⟩ := h0
    rcases open_ints Try.underlying46 Try.underlying47 (by kernel_rfl) hf with ⟨hcs, _⟩ | ⟨x, l, c, zs, hcs, _, hl, hm, hz, _, hcell, hwz⟩
    · simp [Value.cells] at hcs
      obtain ⟨rfl, rfl, rfl⟩ := hcs
      exact ⟨[], .inl ⟨rfl, rfl, rfl, rfl⟩⟩
    · simp [Value.cells] at hcs
      obtain ⟨rfl, rfl, rfl⟩ := hcs
      exact ⟨zs, .inr ⟨_, rfl, hl, hm, by simpa using hz, hcell, hwz⟩⟩
  obtain ⟨a1, rfl, rfl, rfl, w1⟩ := open_int Try.underlying21 (hval 1 21 v1 rfl rfl) h1
  clear hA0 hval0
  refine (walk a0 len0 cap0 z0 a1 W w0 w1).mono fun e W' ⟨he, bel⟩ => ?_
  subst he
  exact ⟨_, rfl, _, _, _, [], _, [], hW', trodAll_mk1 (shut_bool Try.underlying4 _), (trodAll_cons_mk (Below.trod laidOut (by kernel_rfl) (of_decide_eq_true (by kernel_rfl)) k0 bel lt0) (trodAll_cons_mk (shut_int Try.underlying21 w1) trodAll_mk0)), rfl, bel.frame _, fun h => by cases h⟩

theorem over : Rows.meetAllRow.holds Try.pinned (OpenSpec.ofChange Rows.meetAllSpec) :=
  OpenClaim.holds_of_wide 7 Try.f7 rfl rfl rfl rfl rfl rfl rfl ⟨rfl, rfl, rfl, rfl, rfl⟩ rfl rfl rfl rfl rfl (by kernel_rfl) Try.func7 (by kernel_rfl)
    (of_decide_eq_true (by kernel_rfl)) (by unfold Func.isWrapper; first | (rw [if_pos (by decide +kernel)]; kernel_rfl) | (rw [if_neg (by decide +kernel)]; exact ⟨rfl, rfl⟩))
    (fun os started H enc _ => lifted os started H enc)

theorem proved : Rows.MeetAllSaid := over
end Go.Proofs.Ytkbjmcgnjhpkiaa.MeetAll
