/- AgendaMoves: for every list of 1 to 200 times, what is moved is due then, and keeps its ticket; all else stays. (Another list is let go by the statement itself.) No condition. -/
import Derived.Test.YtcnfidfpgohpoaaAgL
import Derived.Test.YtcnfidfpgohpoaaFixZ
import Derived.WalkKit
import Derived.WalkSpells
import Derived.WalkLawsBesides
import Derived.Lib.Hide
import Derived.Handy
import Derived.ProofKit
import Derived.OpenShut
import Derived.ShutString
import Derived.ChangeOld
import Derived.Below
namespace Go.Proofs.Ytcnfidfpgohpoaa.AgendaMoves
open Go.Proofs.Ytcnfidfpgohpoaa.W
open Go.ChangeShapes Go.WideShapes Go.ChangeAt Go.RowKit
open Go.ChangeMaps (open_string shut_string)
set_option linter.unusedVariables false
theorem own : ownKnob Try.prog.godebug = none := by kernel_rfl
theorem laidOut : laidOutB Try.prog = true := by kernel_rfl
open Go.Sort
set_option linter.unusedSimpArgs false
set_option maxRecDepth 100000 in
set_option maxHeartbeats 12800000 in
theorem walk (a0 : Option Addr) (len0 cap0 : Nat) (zs : List Int) (k : Int) (td : Int) (w : World) (w0 : IsRow .u16 w a0 len0 cap0 zs) (w1 : (Lit.int .u8 k).wf = true) (w2 : (Lit.int .u16 td).wf = true) :
    Calls Try.prog 7 #[.slice a0 len0 cap0, .int .u8 k, .int .u16 td] w fun e w' => e = .returned (.bool true) ∧ Below w.heap.size w w' := by
  obtain ⟨z, rfl, hz, iv⟩ := w0.sl
  have k01 := u8_bounds w1
  have a01 := u16_bounds w2
  clear w0 w1 w2
  have cz := shown8_any
  have cn := fun w' (h : Below w.heap.size w w') => onew8_any w w' h
  have IV := Lib.hid iv
  have HZ := Lib.hid hz
  clear iv hz
  by_cases hl : 200 < z.length
  · have hli : 200 < (z.length : Int) := by omega
    go_enter Try.func7, Try.ntmps7
    go_wp2_with fail
    (with_reducible refine (cz _).mono ?_)
    rintro e w1 ⟨rfl, hB⟩
    go_wp2_with fail
    go_ret
    exact ⟨rfl, hB⟩
  · by_cases hz0 : z.length = 0
    · rw [hz0]
      go_enter Try.func7, Try.ntmps7
      go_wp2_with fail
      (with_reducible refine (cz _).mono ?_)
      rintro e w1 ⟨rfl, hB⟩
      go_wp2_with fail
      go_ret
      exact ⟨rfl, hB⟩
    have hli : ¬ 200 < (z.length : Int) := by omega
    have hzi : ((z.length : Int) == 0) = false := beq_eq_false_iff_ne.2 (by omega)
    have hzn : ¬ (z.length : Int) = 0 := by omega
    have hzp : 0 < z.length := by omega
    go_enter Try.func7, Try.ntmps7
    go_wp2_with fail
    (with_reducible refine (cz _).mono ?_)
    rintro e w1 ⟨rfl, hB1⟩
    go_wp2_with fail
    (with_reducible refine (cn _ hB1).mono ?_)
    rintro e w2 ⟨pc, rfl, h1, hB2⟩
    have h2 := h1.less (K' := fun k => k < w.heap.size) (fun k hk => Nat.lt_of_lt_of_le hk hB1.size)
    have hB3 : ∀ k, k < w.heap.size → w2.heap[k]? = w.heap[k]? := (hB1.trans (hB2.mono hB1.size)).block
    clear h1 hB1 hB2 cn
    go_wp2_with fail
    go_loopw [8] (fun i wr => ∃ (j : Nat) (a : Ag), j ≤ z.length ∧ i = .int .i64 j ∧ Filled (Due z) j a ∧ One8 w wr (fun k => k < w.heap.size) pc a) (fun i _ => z.length - (intOf i).toNat)
    case atStart => exact ⟨0, agNew, Nat.zero_le _, rfl, fill_new _, h2⟩
    case round =>
      obtain ⟨j, a, hj, rfl, fl, h3⟩ := hrel
      by_cases hlt : j < z.length
      · obtain ⟨y, hy, hym⟩ := at_index z j hlt
        rcases IV.out with ⟨_, _, _, _, rfl⟩ | ⟨b, off, cap, hv, hbl, hc⟩
        · simp at hlt
        · simp only [Value.slice.injEq] at hv
          obtain ⟨rfl, _, rfl⟩ := hv
          have y01 := u16_bounds (HZ.out y hym)
          have c0 : wr.cell? ⟨b, off + j, none⟩ = some (.int .u16 y) := by
            have := hc j y hy 0 _ rfl
            rw [Nat.mul_one, Nat.add_zero] at this
            exact ((bcell h3.below).1 b _ hbl).trans this
          have i0 : (0 : Int) ≤ (j : Int) := by omega
          have i1 : (j : Int) < (z.length : Int) := by omega
          have u1 : IntKind.i64.wrap y = y := by rw [IntKind.wrap_i64]; omega
          obtain ⟨e1, e2, fl2⟩ := fill_next fl (by omega) y 1 (by omega) (by omega) (by omega) (by omega) (show Due z _ _ by unfold Due; rw [show ((j : Int) + 1 - 1).toNat = j by omega]; exact hy)
          have yp := oput8_any fl.ok (by have := fl.n; omega) y 1 [] (by omega) (by omega) (by omega) (by omega) (Nat.zero_le _) h3
          rw [e1, e2] at yp
          clear hc hy e1 e2
          rw [show bs [] = { data := #[] } from rfl] at yp
          go_wp2_with fail
          (with_reducible refine yp.mono ?_)
          rintro e w4 ⟨rfl, h4, hK4⟩
          go_wp2_with fail
          go_roundw
          case rel => exact ⟨j + 1, _, by omega, by go_num, fl2, h4⟩
          case measure => simp [intOf]; omega
      · obtain rfl : j = z.length := by omega
        have nn := fl.n
        have ok := fl.ok
        have nb : a.n ≤ 1000000 := by omega
        obtain ⟨t0, ht0⟩ : ∃ t0 : Nat, t0 = k.toNat % z.length := ⟨_, rfl⟩
        have htl : t0 < z.length := by rw [ht0]; exact Nat.mod_lt _ hzp
        have f1 : k % (z.length : Int) = (t0 : Int) := by
          rw [ht0, Int.natCast_emod, show ((k.toNat : Nat) : Int) = k by omega]
        have f2 : k.tmod (z.length : Int) = (t0 : Int) := by rw [Int.tmod_eq_emod_of_nonneg (by omega)]; exact f1
        have hh := fl.has ((t0 : Int) + 1) (by omega) (by omega)
        have u2 : IntKind.i64.wrap td = td := by rw [IntKind.wrap_i64]; omega
        have u3 : IntKind.i64.wrap k = k := by rw [IntKind.wrap_i64]; omega
        have g1 : movE a ((t0 : Int) + 1) (-1) = 1 := by unfold movE; rw [hh, if_pos rfl, if_pos (by decide)]
        have g2 : movS a ((t0 : Int) + 1) (-1) = a := by unfold movS; rw [if_pos (by decide)]
        have hno := fl.no ((z.length : Int) + 1) (by omega)
        have g3 : movE a ((z.length : Int) + 1) 5 = 3 := by unfold movE; rw [hno]; rfl
        have g4 : movS a ((z.length : Int) + 1) 5 = a := by
          unfold movS
          rw [if_neg (by decide)]
          cases hf : findL ((z.length : Int) + 1) a.l with
          | none => rfl
          | some x =>
            exfalso
            have hx := List.mem_of_find?_eq_some hf
            have ht : x.ticket = (z.length : Int) + 1 := by have := List.find?_some hf; simpa using this
            have := (ok.given x hx).2.1
            omega
        have g5 := mov_zero (a := a) hh a01.1
        have ok1 := mov_ok ok ((t0 : Int) + 1) td (by omega)
        have nb1 : (movS a ((t0 : Int) + 1) td).n ≤ 1000000 := by rw [mov_n]; exact nb
        have len1 : (movS a ((t0 : Int) + 1) td).l.length = z.length := by rw [mov_length ok, fl.len]
        have mem1 : ∀ y ∈ (movS a ((t0 : Int) + 1) td).l, (y.ticket = (t0 : Int) + 1 ∧ y.at_ = td) ∨ (y.ticket ≠ (t0 : Int) + 1 ∧ ∃ s : Nat, s < z.length ∧ y.ticket = (s : Int) + 1 ∧ z[s]? = some y.at_) := by
          intro y hy
          rcases mov_mem _ _ hh a01.1 hy with h | ⟨h, hm⟩
          · exact .inl h
          · have hg := ok.given y hm
            have hd := fl.all y hm
            unfold Due at hd
            exact .inr ⟨h, (y.ticket - 1).toNat, by omega, by omega, hd⟩
        have y1 := omov8_any ok nb ((t0 : Int) + 1) (-1) (by omega) (by omega) (by omega) (by omega) h3
        rw [g1, g2] at y1
        clear g1 g2 hno ht0 fl
        generalize hmv : movS a ((t0 : Int) + 1) td = a1 at *
        have MOV := Lib.hid hmv
        clear hmv
        have G := Lib.hid (And.intro g3 (And.intro g4 g5))
        have MEM := Lib.hid mem1
        clear g3 g4 g5 mem1
        have hml : (a1.l.length : Int) = (z.length : Int) := by rw [len1]
        go_wp2_with fail
        (with_reducible refine y1.mono ?_)
        clear y1
        rintro e w4 ⟨rfl, h4, _⟩
        have y2 := omov8_any ok nb ((z.length : Int) + 1) 5 (by omega) (by omega) (by omega) (by omega) h4
        rw [G.out.1, G.out.2.1] at y2
        go_wp2_with fail
        (with_reducible refine y2.mono ?_)
        clear y2
        rintro e w5 ⟨rfl, h5, _⟩
        have y3 := omov8_any ok nb ((t0 : Int) + 1) td (by omega) (by omega) (by omega) (by omega) h5
        rw [G.out.2.2] at y3
        go_wp2_with fail
        (with_reducible refine y3.mono ?_)
        clear y3
        rintro e w6 ⟨rfl, h6, _⟩
        have h6 := MOV.out ▸ h6
        have y4 := olist8_any ok1 nb1 h6
        go_wp2_with fail
        (with_reducible refine y4.mono ?_)
        clear y4 h5 h4 h3
        rintro e wl ⟨vl, rfl, hsl, hBl⟩
        have h7 := h6.kept hBl
        obtain ⟨xl, cl, rfl⟩ := hsl.slice
        have HSL := Lib.hid hsl
        clear hsl hBl h6
        go_wp2_with fail
        go_loopw [11] (fun i wt => ∃ j : Nat, j ≤ a1.l.length ∧ i = .int .i64 j ∧ wt = wl) (fun i _ => a1.l.length - (intOf i).toNat)
        case atStart => exact ⟨0, Nat.zero_le _, rfl, rfl⟩
        case round =>
          obtain ⟨j, hj, rfl, hwr⟩ := hrel
          subst hwr
          by_cases hlt : j < a1.l.length
          · obtain ⟨x, hx, hxm⟩ := at_index a1.l j hlt
            rcases HSL.out with ⟨_, _, _, _, hn⟩ | ⟨bl, ol, pl, hvl, hbl, hcl⟩
            · rw [hn] at hlt; simp at hlt
            · simp only [Value.slice.injEq] at hvl
              obtain ⟨rfl, hll, rfl⟩ := hvl
              clear hll
              obtain ⟨q0, q1, q2, q3⟩ := it_at (F := fun _ => True) (w := wr) rfl (hcl j x hx)
              have i0 : (0 : Int) ≤ (j : Int) := by omega
              have i1 : (j : Int) < (a1.l.length : Int) := by omega
              rcases MEM.out x hxm with ⟨e1, e2⟩ | ⟨e1, s, hs, e2, hxs⟩
              · rw [e1] at q3
                rw [e2] at q0
                clear hcl hx hxm e1 e2
                go_wp2_with fail
                go_roundw
                case rel => exact ⟨j + 1, by omega, by go_num, by first | exact rfl | trivial⟩
                case measure => simp [intOf]; omega
              · have hc0 : ∃ b off cap, Value.slice a0 z.length cap0 = .slice (some ⟨b, off, none⟩) z.length cap ∧ wr.cell? ⟨b, off + s, none⟩ = some (.int .u16 x.at_) := by
                  rcases IV.out with ⟨_, _, _, _, hn⟩ | ⟨b, off, cap, hv, hbl, hc⟩
                  · rw [hn] at hzp; simp at hzp
                  · have := hc s _ hxs 0 _ rfl
                    rw [Nat.mul_one, Nat.add_zero] at this
                    exact ⟨b, off, cap, hv, ((bcell h7.below).1 b _ hbl).trans this⟩
                obtain ⟨b, off, cap, hv, c0⟩ := hc0
                simp only [Value.slice.injEq] at hv
                obtain ⟨rfl, _, rfl⟩ := hv
                rw [e2] at q3
                have hx01 := u16_bounds (HZ.out x.at_ (List.mem_of_getElem? hxs))
                have u4 : IntKind.i64.wrap x.at_ = x.at_ := by rw [IntKind.wrap_i64]; omega
                have u5 : IntKind.i64.wrap ((s : Int) + 1 - 1) = (s : Int) := by rw [IntKind.wrap_i64]; omega
                have u6 : IntKind.i64.wrap (s : Int) = (s : Int) := by rw [IntKind.wrap_i64]; omega
                have i2 : (0 : Int) ≤ (s : Int) := by omega
                have i3 : (s : Int) < (z.length : Int) := by omega
                have hne : ((s : Int) + 1 != (t0 : Int) + 1) = true := by rw [bne_iff_ne]; rw [e2] at e1; exact e1
                clear hcl hx hxm e1 e2 hxs
                go_wp2_with fail
                go_roundw
                case rel => exact ⟨j + 1, by omega, by go_num, by first | exact rfl | trivial⟩
                case measure => simp [intOf]; omega
          · obtain rfl : j = a1.l.length := by omega
            rw [hml]
            go_wp2_with fail
            go_ret
            exact ⟨rfl, h7.below⟩
set_option maxRecDepth 100000 in
theorem lifted (os : Os) (started : os.Started) (H : Type) (enc : TypeId × Value → H) :
    ReturnsInHanded {} Try.checked os 7 .any (Rows.agendaMovesSpec.pre6 enc Try.prog Try.f7 Rows.agendaMovesRow.domain false) (Rows.agendaMovesSpec.post enc Try.prog Try.f7 false true false false) := by
  refine returnsInHanded_of_change (C := Try.checked) own started (by kernel_rfl) Try.func7
    (ChangeSpec.witness6 (enc := enc) (C := Try.checked) false ⟨#[], #[.slice none 0 0, .int .u8 0, .int .u16 0], []⟩ 8 (by kernel_rfl) (by kernel_rfl) (by kernel_rfl) (by kernel_rfl)) ?_
  intro W base args ds gs before hval0 hW hcnd _
  have hval : ∀ (j : Nat) t v, Try.f7.params[j]? = some t → args[j]? = some v → Value.okWide Try.prog W .any base t v := hval0
  have hW' := hW
  obtain ⟨p, q, hA0, hV, rfl, hfz, hnd⟩ := hW
  have hA : DataW.TrodAll enc Try.prog W 0 (fun _ => true) true Try.f7.params.toList args.toList ds p := hA0
  rw [Try.params7] at hA hval
  obtain ⟨v0, vs0, d0, ds0, p0, q0, hargs, rfl, rfl, h0, r0⟩ := trodAll_cons hA
  obtain ⟨v1, vs1, d1, ds1, p1, q1, rfl, rfl, rfl, h1, r1⟩ := trodAll_cons r0
  obtain ⟨v2, vs2, d2, ds2, p2, q2, rfl, rfl, rfl, h2, r2⟩ := trodAll_cons r1
  obtain ⟨rfl, rfl, rfl⟩ := trodAll_nil r2
  obtain rfl : args = #[v0, v1, v2] := by cases args; simp_all
  obtain ⟨rfl, rfl⟩ := trodVars_none hV
  obtain ⟨a0, len0, cap0, rfl⟩ := okWide_slice Try.underlying47 (hval 0 47 v0 rfl rfl)
  have k0 := h0
  have lt0 : ∀ x ∈ p0, x.block < W.heap.size := by obtain ⟨m, hm⟩ := k0; exact DataW.trod_lt m _ _ _ hm
  obtain ⟨z0, w0⟩ : ∃ zs, IsRow .u16 W a0 len0 cap0 zs := by
    obtain ⟨fuel, hf⟩ := h0
    rcases open_ints Try.underlying47 Try.underlying48 (by kernel_rfl) hf with ⟨hcs, _⟩ | ⟨x, l, c, zs, hcs, _, hl, hm, hz, _, hcell, hwz⟩
    · simp [Value.cells] at hcs
      obtain ⟨rfl, rfl, rfl⟩ := hcs
      exact ⟨[], .inl ⟨rfl, rfl, rfl, rfl⟩⟩
    · simp [Value.cells] at hcs
      obtain ⟨rfl, rfl, rfl⟩ := hcs
      exact ⟨zs, .inr ⟨_, rfl, hl, hm, by simpa using hz, hcell, hwz⟩⟩
  obtain ⟨a1, rfl, rfl, rfl, w1⟩ := open_int Try.underlying5 (hval 1 5 v1 rfl rfl) h1
  obtain ⟨a2, rfl, rfl, rfl, w2⟩ := open_int Try.underlying48 (hval 2 48 v2 rfl rfl) h2
  clear hA0 hval0
  refine (walk a0 len0 cap0 z0 a1 a2 W w0 w1 w2).mono fun e W' ⟨he, bel⟩ => ?_
  subst he
  exact ⟨_, rfl, _, _, _, [], _, [], hW', trodAll_mk1 (shut_bool Try.underlying4 _), (trodAll_cons_mk (Below.trod laidOut (by kernel_rfl) (of_decide_eq_true (by kernel_rfl)) k0 bel lt0) (trodAll_cons_mk (shut_int Try.underlying5 w1) (trodAll_cons_mk (shut_int Try.underlying48 w2) trodAll_mk0))), rfl, bel.frame _, fun h => by cases h⟩

theorem over : Rows.agendaMovesRow.holds Try.pinned (OpenSpec.ofChange Rows.agendaMovesSpec) :=
  OpenClaim.holds_of_wide 7 Try.f7 rfl rfl rfl rfl rfl rfl rfl ⟨rfl, rfl, rfl, rfl, rfl⟩ rfl rfl rfl rfl rfl (by kernel_rfl) Try.func7 (by kernel_rfl)
    (of_decide_eq_true (by kernel_rfl)) (by unfold Func.isWrapper; first | (rw [if_pos (by decide +kernel)]; kernel_rfl) | (rw [if_neg (by decide +kernel)]; exact ⟨rfl, rfl⟩))
    (fun os started H enc _ => lifted os started H enc)

theorem proved : Rows.AgendaMovesSaid := over
end Go.Proofs.Ytcnfidfpgohpoaa.AgendaMoves
