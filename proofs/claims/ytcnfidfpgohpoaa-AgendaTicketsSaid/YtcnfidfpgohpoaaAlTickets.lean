/- AgendaTickets: for every list of at most 300 times, each ticket is given once, they rise; what is moved away and back stands where it stood; what is doubled and cancelled is gone. (A longer list is let go by the statement itself.) No condition. -/
import Derived.Test.YtcnfidfpgohpoaaAgL
import Derived.Test.YtcnfidfpgohpoaaFixZ
import Derived.WalkKit
import Derived.WalkSpells
import Derived.WalkLawsBesides
import Derived.Lib.Hide
import Derived.Handy
import Derived.ProofKit
import Derived.OpenShut
import Derived.ShutString
import Derived.ChangeOld
import Derived.Below
namespace Go.Proofs.Ytcnfidfpgohpoaa.AgendaTickets
open Go.Proofs.Ytcnfidfpgohpoaa.W
open Go.ChangeShapes Go.WideShapes Go.ChangeAt Go.RowKit
open Go.ChangeMaps (open_string shut_string)
set_option linter.unusedVariables false
theorem own : ownKnob Try.prog.godebug = none := by kernel_rfl
theorem laidOut : laidOutB Try.prog = true := by kernel_rfl
open Go.Sort
set_option linter.unusedSimpArgs false
set_option maxRecDepth 100000 in
set_option maxHeartbeats 12800000 in
theorem walk (a0 : Option Addr) (len0 cap0 : Nat) (zs : List Int) (k : Int) (away : Int) (w : World) (w0 : IsRow .u16 w a0 len0 cap0 zs) (w1 : (Lit.int .u8 k).wf = true) (w2 : (Lit.int .u16 away).wf = true) :
    Calls Try.prog 5 #[.slice a0 len0 cap0, .int .u8 k, .int .u16 away] w fun e w' => e = .returned (.bool true) ∧ Below w.heap.size w w' := by
  obtain ⟨z, rfl, hz, iv⟩ := w0.sl
  have k01 := u8_bounds w1
  have a01 := u16_bounds w2
  clear w0 w1 w2
  have cz := shown8_any
  have cn := fun w' (h : Below w.heap.size w w') => onew8_any w w' h
  have IV := Lib.hid iv
  have HZ := Lib.hid hz
  clear iv hz
  by_cases hl : 300 < z.length
  · have hli : 300 < (z.length : Int) := by omega
    go_enter Try.func5, Try.ntmps5
    go_wp2_with fail
    (with_reducible refine (cz _).mono ?_)
    rintro e w1 ⟨rfl, hB⟩
    go_wp2_with fail
    go_ret
    exact ⟨rfl, hB⟩
  · have hli : ¬ 300 < (z.length : Int) := by omega
    go_enter Try.func5, Try.ntmps5
    go_wp2_with fail
    (with_reducible refine (cz _).mono ?_)
    rintro e w1 ⟨rfl, hB1⟩
    go_wp2_with fail
    (with_reducible refine (cn _ hB1).mono ?_)
    rintro e w2 ⟨pc, rfl, h1, hB2⟩
    have h2 := h1.less (K' := fun k => k < w.heap.size) (fun k hk => Nat.lt_of_lt_of_le hk hB1.size)
    have hB3 : ∀ k, k < w.heap.size → w2.heap[k]? = w.heap[k]? := (hB1.trans (hB2.mono hB1.size)).block
    clear h1 hB1 hB2 cn
    go_wp2_with fail
    go_loopw [8] (fun i wr => ∃ (j : Nat) (a : Ag), j ≤ z.length ∧ i = .int .i64 j ∧ Filled (Due z) j a ∧ One8 w wr (fun k => k < w.heap.size) pc a) (fun i _ => z.length - (intOf i).toNat)
    case atStart => exact ⟨0, agNew, Nat.zero_le _, rfl, fill_new _, h2⟩
    case round =>
      obtain ⟨j, a, hj, rfl, fl, h3⟩ := hrel
      by_cases hlt : j < z.length
      · obtain ⟨y, hy, hym⟩ := at_index z j hlt
        rcases IV.out with ⟨_, _, _, _, rfl⟩ | ⟨b, off, cap, hv, hbl, hc⟩
        · simp at hlt
        · simp only [Value.slice.injEq] at hv
          obtain ⟨rfl, _, rfl⟩ := hv
          have y01 := u16_bounds (HZ.out y hym)
          have c0 : wr.cell? ⟨b, off + j, none⟩ = some (.int .u16 y) := by
            have := hc j y hy 0 _ rfl
            rw [Nat.mul_one, Nat.add_zero] at this
            exact ((bcell h3.below).1 b _ hbl).trans this
          have i0 : (0 : Int) ≤ (j : Int) := by omega
          have i1 : (j : Int) < (z.length : Int) := by omega
          have u1 : IntKind.i64.wrap y = y := by rw [IntKind.wrap_i64]; omega
          obtain ⟨q, hq⟩ : ∃ q, q = (j : Int) % 256 := ⟨_, rfl⟩
          have hq2 : 0 ≤ q ∧ q ≤ 255 := by omega
          obtain ⟨e1, e2, fl2⟩ := fill_next fl (by omega) y q (by omega) (by omega) hq2.1 hq2.2 (show Due z _ _ by unfold Due; rw [show ((j : Int) + 1 - 1).toNat = j by omega]; exact hy)
          have yp := oput8_any fl.ok (by have := fl.n; omega) y q [] (by omega) (by omega) (by omega) (by omega) (Nat.zero_le _) h3
          rw [e1, e2, hq] at yp
          rw [hq] at fl2
          clear hc hy e1 e2 hq hq2
          rw [show bs [] = { data := #[] } from rfl] at yp
          go_wp2_with fail
          (with_reducible refine yp.mono ?_)
          rintro e w4 ⟨rfl, h4, hK4⟩
          go_wp2_with fail
          go_roundw
          case rel => exact ⟨j + 1, _, by omega, by go_num, fl2, h4⟩
          case measure => simp [intOf]; omega
      · obtain rfl : j = z.length := by omega
        have nn := fl.n
        have ok := fl.ok
        have nb : a.n ≤ 1000000 := by omega
        by_cases hz0 : z.length = 0
        · have hcan : canE a 1 = 3 := by unfold canE; rw [fl.no 1 (by omega)]; rfl
          have yc := ocan8_any ok nb 1 (by decide) (by decide) h3
          rw [hcan] at yc
          rw [hz0] at *
          go_wp2_with fail
          (with_reducible refine yc.mono ?_)
          rintro e w4 ⟨rfl, h4, _⟩
          go_wp2_with fail
          go_ret
          exact ⟨rfl, h4.below⟩
        · have hzi : ((z.length : Int) == 0) = false := beq_eq_false_iff_ne.2 (by omega)
          have hzn : ¬ (z.length : Int) = 0 := by omega
          have hzp : 0 < z.length := by omega
          obtain ⟨t0, ht0⟩ : ∃ t0 : Nat, t0 = k.toNat % z.length := ⟨_, rfl⟩
          have htl : t0 < z.length := by rw [ht0]; exact Nat.mod_lt _ hzp
          have f1 : k % (z.length : Int) = (t0 : Int) := by
            rw [ht0, Int.natCast_emod, show ((k.toNat : Nat) : Int) = k by omega]
          have f2 : k.tmod (z.length : Int) = (t0 : Int) := by rw [Int.tmod_eq_emod_of_nonneg (by omega)]; exact f1
          have hh := fl.has ((t0 : Int) + 1) (by omega) (by omega)
          obtain ⟨x, hxf, hxm, hxt⟩ := find_has hh
          have hxd := fl.all x hxm
          unfold Due at hxd
          rw [hxt, show ((t0 : Int) + 1 - 1).toNat = t0 by omega] at hxd
          have hx01 := u16_bounds (HZ.out x.at_ (List.mem_of_getElem? hxd))
          have u1 : IntKind.i64.wrap x.at_ = x.at_ := by rw [IntKind.wrap_i64]; omega
          have u2 : IntKind.i64.wrap away = away := by rw [IntKind.wrap_i64]; omega
          have u3 : IntKind.i64.wrap k = k := by rw [IntKind.wrap_i64]; omega
          have i0 : (0 : Int) ≤ (t0 : Int) := by omega
          have i1 : (t0 : Int) < (z.length : Int) := by omega
          have g1 := mov_zero (a := a) hh a01.1
          have ok1 := mov_ok ok ((t0 : Int) + 1) away (by omega)
          have hh1 : hasL ((t0 : Int) + 1) (movS a ((t0 : Int) + 1) away).l = true := by rw [mov_has _ _ _ hh a01.1]; exact hh
          have g2 := mov_zero (a := movS a ((t0 : Int) + 1) away) hh1 hx01.1
          have g3 : movS (movS a ((t0 : Int) + 1) away) ((t0 : Int) + 1) x.at_ = a := by
            have := mov_back ok hxm away a01.1 hx01.1
            rw [hxt] at this
            exact this
          obtain ⟨d1, d2, d3, d4, d5⟩ := dbl_back ok hh a01.1 (by have := fl.len; omega)
          have okd := dbl_ok ok ((t0 : Int) + 1) away (by omega)
          have okm := more_ok ok
          have ndb : (dblS a ((t0 : Int) + 1) away).n ≤ 1000000 := by
            unfold dblS
            split
            · have := put_n a away (‹It›).kind (‹It›).data; omega
            · omega
          have d6 : canS ⟨a.l, a.n + 1⟩ (a.n + 1) = ⟨a.l, a.n + 1⟩ := by
            unfold canS
            rw [off_none (by
              unfold canE at d5
              cases hq : hasL (a.n + 1) a.l
              · rfl
              · rw [hq] at d5; cases d5)]
          have hal : a.l.length ≤ 1000000 := by have := fl.len; omega
          have hsame : lSame itEq a.l a.l = true := (lSame_iff itEq_iff _ _).2 rfl
          rw [nn] at d2 d3 d4 d5 d6 okm
          have nm : (z.length : Int) + 1 ≤ 1000000 := by omega
          have y1 := olist8_any ok nb h3
          have G := Lib.hid (And.intro g1 (And.intro g2 (And.intro g3 (And.intro d1 (And.intro d2 (And.intro d3 (And.intro d4 (And.intro d5 d6))))))))
          have HXD := Lib.hid hxd
          clear g1 g2 g3 d1 d2 d3 d4 d5 d6 hxd hxf hxm hxt ht0 fl hz0
          go_wp2_with fail
          (with_reducible refine y1.mono ?_)
          clear y1
          rintro e wl ⟨vl, rfl, hsl, hBl⟩
          have h4 := (h3.more hBl).less (K' := fun k => wr.heap.size ≤ k ∧ k < wl.heap.size) (fun k hk => .inr hk)
          generalize hKe : (fun k => wr.heap.size ≤ k ∧ k < wl.heap.size) = K at *
          clear hKe h3
          have y2 := omov8_any ok nb ((t0 : Int) + 1) away (by omega) (by omega) (by omega) (by omega) h4
          rw [G.out.1] at y2
          obtain ⟨xl, cl, rfl⟩ := hsl.slice
          have HSL := Lib.hid hsl
          clear hsl hBl
          go_wp2_with fail
          (with_reducible refine y2.mono ?_)
          clear y2
          rintro e w5 ⟨rfl, h5, HK5⟩
          have y3 := omov8_any ok1 (by rw [mov_n]; exact nb) ((t0 : Int) + 1) x.at_ (by omega) (by omega) (by omega) (by omega) h5
          rw [G.out.2.1, G.out.2.2.1] at y3
          have hc0 : ∃ b off cap, Value.slice a0 z.length cap0 = .slice (some ⟨b, off, none⟩) z.length cap ∧ w5.cell? ⟨b, off + t0, none⟩ = some (.int .u16 x.at_) := by
            rcases IV.out with ⟨_, _, _, _, hn⟩ | ⟨b, off, cap, hv, hbl, hc⟩
            · rw [hn] at hzp; simp at hzp
            · have := hc t0 _ HXD.out 0 _ rfl
              rw [Nat.mul_one, Nat.add_zero] at this
              exact ⟨b, off, cap, hv, ((bcell h5.below).1 b _ hbl).trans this⟩
          obtain ⟨b, off, cap, hv, c0⟩ := hc0
          simp only [Value.slice.injEq] at hv
          obtain ⟨rfl, _, rfl⟩ := hv
          go_wp2_with fail
          (with_reducible refine y3.mono ?_)
          clear y3 c0
          rintro e w6 ⟨rfl, h6, hK6⟩
          have HK6 : ∀ q, K q → w6.heap[q]? = wl.heap[q]? := fun q hq => (hK6 q hq).trans (HK5 q hq)
          have y4 := olist8_any ok nb h6
          clear hK6 HK5 h5 h4
          go_wp2_with fail
          (with_reducible refine y4.mono ?_)
          clear y4
          rintro e w7 ⟨v7, rfl, hs7, hB7⟩
          have h7 := h6.kept hB7
          have HK7 : ∀ q, K q → w7.heap[q]? = wl.heap[q]? := fun q hq => (hB7.block q (h6.low q hq)).trans (HK6 q hq)
          have y5 := theirs8_any a.l hal v7 w7 (fun k hk => hk.2) hs7
          obtain ⟨x7, c7, rfl⟩ := hs7.slice
          clear hs7 hB7 HK6 h6
          go_wp2_with fail
          (with_reducible refine y5.mono ?_)
          clear y5
          rintro e w8 ⟨v8, rfl, hs8, hB8⟩
          have h8 := h7.kept hB8
          have HK8 : ∀ q, K q → w8.heap[q]? = wl.heap[q]? := fun q hq => (hB8.block q (h7.low q hq)).trans (HK7 q hq)
          have y6 := theirs8_any a.l hal _ w8 (fun k hk => h8.low k hk) (HSL.out.kept HK8)
          obtain ⟨x8, c8, rfl⟩ := hs8.slice
          have HS8 := Lib.hid hs8
          clear hs8 hB8 HK7 h7
          go_wp2_with fail
          (with_reducible refine y6.mono ?_)
          clear y6
          rintro e w9 ⟨v9, rfl, hs9, hB9⟩
          have h9 := h8.kept hB9
          have HK9 : ∀ q, K q → w9.heap[q]? = wl.heap[q]? := fun q hq => (hB9.block q (h8.low q hq)).trans (HK8 q hq)
          have y7 := rsame8_any a.l a.l hal hal _ _ w9 (HS8.out.kept (fun b hb => hB9.block b hb.2)) hs9
          rw [hsame] at y7
          obtain ⟨x9, c9, rfl⟩ := hs9.slice
          clear hs9 hB9 HK8 h8 HS8
          go_wp2_with fail
          (with_reducible refine y7.mono ?_)
          clear y7
          rintro e w10 ⟨rfl, m, rfl⟩
          have h10 := h9.kept (below_drewN (Below.refl w9.heap.size w9) m)
          have HK10 : ∀ q, K q → (w9.drewN m).heap[q]? = wl.heap[q]? := HK9
          generalize w9.drewN m = w10 at *
          have y8 := odbl8_any ok nb ((t0 : Int) + 1) away (by omega) (by omega) (by omega) (by omega) h10
          rw [G.out.2.2.2.1, G.out.2.2.2.2.1] at y8
          clear h9 HK9
          go_wp2_with fail
          (with_reducible refine y8.mono ?_)
          clear y8
          rintro e w11 ⟨rfl, h11, hK11⟩
          have HK11 : ∀ q, K q → w11.heap[q]? = wl.heap[q]? := fun q hq => (hK11 q hq).trans (HK10 q hq)
          have y9 := ocan8_any okd ndb ((z.length : Int) + 1) (by omega) (by omega) h11
          rw [G.out.2.2.2.2.2.1, G.out.2.2.2.2.2.2.1] at y9
          clear hK11 HK10 h10
          go_wp2_with fail
          (with_reducible refine y9.mono ?_)
          clear y9
          rintro e w12 ⟨rfl, h12, hK12⟩
          have HK12 : ∀ q, K q → w12.heap[q]? = wl.heap[q]? := fun q hq => (hK12 q hq).trans (HK11 q hq)
          have y10 := ocan8_any okm nm ((z.length : Int) + 1) (by omega) (by omega) h12
          rw [G.out.2.2.2.2.2.2.2.1, G.out.2.2.2.2.2.2.2.2] at y10
          clear hK12 HK11 h11
          go_wp2_with fail
          (with_reducible refine y10.mono ?_)
          clear y10
          rintro e w13 ⟨rfl, h13, hK13⟩
          have HK13 : ∀ q, K q → w13.heap[q]? = wl.heap[q]? := fun q hq => (hK13 q hq).trans (HK12 q hq)
          have y11 := olist8_any okm nm h13
          clear hK13 HK12 h12
          go_wp2_with fail
          (with_reducible refine y11.mono ?_)
          clear y11
          rintro e w14 ⟨v14, rfl, hs14, hB14⟩
          have h14 := h13.kept hB14
          have HK14 : ∀ q, K q → w14.heap[q]? = wl.heap[q]? := fun q hq => (hB14.block q (h13.low q hq)).trans (HK13 q hq)
          have y12 := theirs8_any a.l hal v14 w14 (fun k hk => hk.2) hs14
          obtain ⟨x14, c14, rfl⟩ := hs14.slice
          clear hs14 hB14 HK13 h13
          go_wp2_with fail
          (with_reducible refine y12.mono ?_)
          clear y12
          rintro e w15 ⟨v15, rfl, hs15, hB15⟩
          have h15 := h14.kept hB15
          have HK15 : ∀ q, K q → w15.heap[q]? = wl.heap[q]? := fun q hq => (hB15.block q (h14.low q hq)).trans (HK14 q hq)
          have y13 := theirs8_any a.l hal _ w15 (fun k hk => h15.low k hk) (HSL.out.kept HK15)
          obtain ⟨x15, c15, rfl⟩ := hs15.slice
          have HS15 := Lib.hid hs15
          clear hs15 hB15 HK14 h14
          go_wp2_with fail
          (with_reducible refine y13.mono ?_)
          clear y13
          rintro e w16 ⟨v16, rfl, hs16, hB16⟩
          have h16 := h15.kept hB16
          have y14 := rsame8_any a.l a.l hal hal _ _ w16 (HS15.out.kept (fun b hb => hB16.block b hb.2)) hs16
          rw [hsame] at y14
          obtain ⟨x16, c16, rfl⟩ := hs16.slice
          clear hs16 hB16 HK15 h15 HS15
          go_wp2_with fail
          (with_reducible refine y14.mono ?_)
          clear y14
          rintro e w17 ⟨rfl, m', rfl⟩
          go_wp2_with fail
          go_ret
          exact ⟨rfl, below_drewN h16.below _⟩
set_option maxRecDepth 100000 in
theorem lifted (os : Os) (started : os.Started) (H : Type) (enc : TypeId × Value → H) :
    ReturnsInHanded {} Try.checked os 5 .any (Rows.agendaTicketsSpec.pre6 enc Try.prog Try.f5 Rows.agendaTicketsRow.domain false) (Rows.agendaTicketsSpec.post enc Try.prog Try.f5 false true false false) := by
  refine returnsInHanded_of_change (C := Try.checked) own started (by kernel_rfl) Try.func5
    (ChangeSpec.witness6 (enc := enc) (C := Try.checked) false ⟨#[], #[.slice none 0 0, .int .u8 0, .int .u16 0], []⟩ 8 (by kernel_rfl) (by kernel_rfl) (by kernel_rfl) (by kernel_rfl)) ?_
  intro W base args ds gs before hval0 hW hcnd _
  have hval : ∀ (j : Nat) t v, Try.f5.params[j]? = some t → args[j]? = some v → Value.okWide Try.prog W .any base t v := hval0
  have hW' := hW
  obtain ⟨p, q, hA0, hV, rfl, hfz, hnd⟩ := hW
  have hA : DataW.TrodAll enc Try.prog W 0 (fun _ => true) true Try.f5.params.toList args.toList ds p := hA0
  rw [Try.params5] at hA hval
  obtain ⟨v0, vs0, d0, ds0, p0, q0, hargs, rfl, rfl, h0, r0⟩ := trodAll_cons hA
  obtain ⟨v1, vs1, d1, ds1, p1, q1, rfl, rfl, rfl, h1, r1⟩ := trodAll_cons r0
  obtain ⟨v2, vs2, d2, ds2, p2, q2, rfl, rfl, rfl, h2, r2⟩ := trodAll_cons r1
  obtain ⟨rfl, rfl, rfl⟩ := trodAll_nil r2
  obtain rfl : args = #[v0, v1, v2] := by cases args; simp_all
  obtain ⟨rfl, rfl⟩ := trodVars_none hV
  obtain ⟨a0, len0, cap0, rfl⟩ := okWide_slice Try.underlying47 (hval 0 47 v0 rfl rfl)
  have k0 := h0
  have lt0 : ∀ x ∈ p0, x.block < W.heap.size := by obtain ⟨m, hm⟩ := k0; exact DataW.trod_lt m _ _ _ hm
  obtain ⟨z0, w0⟩ : ∃ zs, IsRow .u16 W a0 len0 cap0 zs := by
    obtain ⟨fuel, hf⟩ := h0
    rcases open_ints Try.underlying47 Try.underlying48 (by kernel_rfl) hf with ⟨hcs, _⟩ | ⟨x, l, c, zs, hcs, _, hl, hm, hz, _, hcell, hwz⟩
    · simp [Value.cells] at hcs
      obtain ⟨rfl, rfl, rfl⟩ := hcs
      exact ⟨[], .inl ⟨rfl, rfl, rfl, rfl⟩⟩
    · simp [Value.cells] at hcs
      obtain ⟨rfl, rfl, rfl⟩ := hcs
      exact ⟨zs, .inr ⟨_, rfl, hl, hm, by simpa using hz, hcell, hwz⟩⟩
  obtain ⟨a1, rfl, rfl, rfl, w1⟩ := open_int Try.underlying5 (hval 1 5 v1 rfl rfl) h1
  obtain ⟨a2, rfl, rfl, rfl, w2⟩ := open_int Try.underlying48 (hval 2 48 v2 rfl rfl) h2
  clear hA0 hval0
  refine (walk a0 len0 cap0 z0 a1 a2 W w0 w1 w2).mono fun e W' ⟨he, bel⟩ => ?_
  subst he
  exact ⟨_, rfl, _, _, _, [], _, [], hW', trodAll_mk1 (shut_bool Try.underlying4 _), (trodAll_cons_mk (Below.trod laidOut (by kernel_rfl) (of_decide_eq_true (by kernel_rfl)) k0 bel lt0) (trodAll_cons_mk (shut_int Try.underlying5 w1) (trodAll_cons_mk (shut_int Try.underlying48 w2) trodAll_mk0))), rfl, bel.frame _, fun h => by cases h⟩

theorem over : Rows.agendaTicketsRow.holds Try.pinned (OpenSpec.ofChange Rows.agendaTicketsSpec) :=
  OpenClaim.holds_of_wide 5 Try.f5 rfl rfl rfl rfl rfl rfl rfl ⟨rfl, rfl, rfl, rfl, rfl⟩ rfl rfl rfl rfl rfl (by kernel_rfl) Try.func5 (by kernel_rfl)
    (of_decide_eq_true (by kernel_rfl)) (by unfold Func.isWrapper; first | (rw [if_pos (by decide +kernel)]; kernel_rfl) | (rw [if_neg (by decide +kernel)]; exact ⟨rfl, rfl⟩))
    (fun os started H enc _ => lifted os started H enc)

theorem proved : Rows.AgendaTicketsSaid := over
end Go.Proofs.Ytcnfidfpgohpoaa.AgendaTickets
