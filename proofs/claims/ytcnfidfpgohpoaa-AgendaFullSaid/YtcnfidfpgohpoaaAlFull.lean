/- AgendaFull: for every two numbers there is room for just so many items; what is over is refused, and what is taken makes room. No condition. -/
import Derived.Test.YtcnfidfpgohpoaaAgL
import Derived.Test.YtcnfidfpgohpoaaFixZ
import Derived.WalkKit
import Derived.WalkSpells
import Derived.WalkLawsBesides
import Derived.Lib.Hide
import Derived.Handy
import Derived.ProofKit
import Derived.OpenShut
import Derived.ShutString
import Derived.ChangeOld
import Derived.Below
namespace Go.Proofs.Ytcnfidfpgohpoaa.AgendaFull
open Go.Proofs.Ytcnfidfpgohpoaa.W
open Go.ChangeShapes Go.WideShapes Go.ChangeAt Go.RowKit
open Go.ChangeMaps (open_string shut_string)
set_option linter.unusedVariables false
theorem own : ownKnob Try.prog.godebug = none := by kernel_rfl
theorem laidOut : laidOutB Try.prog = true := by kernel_rfl
open Go.Sort
set_option linter.unusedSimpArgs false
theorem full_put {a : Ag} (h : a.l.length = 1000) (at_ kind : Int) (data : List UInt8) (h0 : 0 ≤ at_) (k0 : 0 ≤ kind) (k1 : kind ≤ 255) (hd : data.length ≤ 2000) : putE a at_ kind data = 2 ∧ putN a at_ kind data = 0 ∧ putS a at_ kind data = a := by
  have e : putE a at_ kind data = 2 := by
    unfold putE
    rw [if_neg (by omega), if_pos (by omega)]
  exact ⟨e, by unfold putN; rw [e]; rfl, by unfold putS; rw [e]; rfl⟩
theorem full_dbl {P : Int → Int → Prop} {a : Ag} (fl : Filled P 1000 a) : dblE a 1 5 = 2 ∧ dblN a 1 5 = 0 ∧ dblS a 1 5 = a := by
  obtain ⟨x, hf, hx, ht⟩ := find_has (fl.has 1 (by decide) (by decide))
  have hg := fl.ok.given x hx
  obtain ⟨e1, e2, e3⟩ := full_put fl.len 5 x.kind x.data (by decide) (by omega) (by omega) (by omega)
  unfold dblE dblN dblS
  rw [hf]
  exact ⟨e1, e2, e3⟩
theorem full_tak {B : Int} (hB : B ≤ 1099511627776) {a : Ag} (fl : Filled (fun _ x => x ≤ B) 1000 a) :
    ∃ x, takV a 1099511627776 = x ∧ x.at_ ≤ B ∧ dueB a 1099511627776 = true ∧ (takS a 1099511627776).l.length = 999 ∧ (takS a 1099511627776).n = 1000 := by
  have hl := fl.len
  have hn := fl.n
  cases h : a.l with
  | nil => rw [h] at hl; cases hl
  | cons x l =>
    have hx : x.at_ ≤ B := fl.all x (by rw [h]; exact List.mem_cons_self ..)
    have hd : dueB a 1099511627776 = true := by unfold dueB; rw [h]; exact decide_eq_true (by omega)
    refine ⟨x, by unfold takV nextV; rw [hd, h]; rfl, hx, hd, ?_, ?_⟩
    · unfold takS
      rw [hd, if_pos rfl, h]
      rw [h] at hl
      simpa using hl
    · unfold takS
      rw [hd, if_pos rfl]
      exact hn
set_option maxRecDepth 100000 in
set_option maxHeartbeats 12800000 in
theorem walk (k : Int) (at_ : Int) (w : World) (w0 : (Lit.int .u8 k).wf = true) (w1 : (Lit.int .u16 at_).wf = true) :
    Calls Try.prog 6 #[.int .u8 k, .int .u16 at_] w fun e w' => e = .returned (.bool true) ∧ Below w.heap.size w w' := by
  have k01 := u8_bounds w0
  have a01 := u16_bounds w1
  clear w0 w1
  have cz := shown8_any
  have cn := onew8_any w w (Below.refl _ _)
  have u1 : IntKind.i64.wrap k = k := by rw [IntKind.wrap_i64]; omega
  have u2 : IntKind.i64.wrap at_ = at_ := by rw [IntKind.wrap_i64]; omega
  obtain ⟨q, hq⟩ : ∃ q : Nat, q = k.toNat % 3 := ⟨_, rfl⟩
  have f1 : k % 3 = (q : Int) := by omega
  have f2 : k.tmod 3 = (q : Int) := by rw [Int.tmod_eq_emod_of_nonneg (by omega)]; exact f1
  obtain ⟨N, hN⟩ : ∃ N : Nat, N + q = 1000 := ⟨1000 - q, by omega⟩
  have f3 : (1000 : Int) - (q : Int) = (N : Int) := by omega
  have hN1 : N ≤ 1000 := by omega
  clear hq
  go_enter Try.func6, Try.ntmps6
  go_wp2_with fail
  (with_reducible refine cn.mono ?_)
  rintro e w2 ⟨pc, rfl, h1, _⟩
  go_wp2_with fail
  go_loopw [7] (fun i wr => ∃ (j : Nat) (a : Ag), j ≤ N ∧ i = .int .i64 j ∧ Filled (fun _ x => x ≤ 1000 + at_) j a ∧ One8 w wr (fun k => k < w.heap.size) pc a) (fun i _ => N - (intOf i).toNat)
  case atStart => exact ⟨0, agNew, Nat.zero_le _, rfl, fill_new _, h1⟩
  case round =>
    obtain ⟨j, a, hj, rfl, fl, h3⟩ := hrel
    by_cases hlt : j < N
    · have i1 : (j : Int) < (N : Int) := by omega
      obtain ⟨y, hy⟩ : ∃ y : Nat, y = j * 7 % 1000 := ⟨_, rfl⟩
      have e1 : ((j : Int) * 7) % 1000 = (y : Int) := by omega
      have e2 : ((j : Int) * 7).tmod 1000 = (y : Int) := by rw [Int.tmod_eq_emod_of_nonneg (by omega)]; exact e1
      obtain ⟨p1, p2, fl2⟩ := fill_next fl (by omega) (y : Int) 1 (by omega) (by omega) (by omega) (by omega) (show (y : Int) ≤ 1000 + at_ by omega)
      have yp := oput8_any fl.ok (by have := fl.n; omega) (y : Int) 1 [] (by omega) (by omega) (by omega) (by omega) (Nat.zero_le _) h3
      rw [p1, p2, show bs [] = { data := #[] } from rfl] at yp
      clear p1 p2 hy
      go_wp2_with fail
      (with_reducible refine yp.mono ?_)
      rintro e w4 ⟨rfl, h4, hK4⟩
      go_wp2_with fail
      go_roundw
      case rel => exact ⟨j + 1, _, by omega, by go_num, fl2, h4⟩
      case measure => simp [intOf]; omega
    · obtain rfl : j = N := by omega
      clear hlt
      go_wp2_with fail
      go_loopw [10] (fun i wr => ∃ (j' : Nat) (a' : Ag), j' ≤ 1000 ∧ i = .int .i64 j' ∧ Filled (fun _ x => x ≤ 1000 + at_) j' a' ∧ One8 w wr (fun k => k < w.heap.size) pc a') (fun i _ => 1000 - (intOf i).toNat)
      case atStart => exact ⟨j, a, hN1, rfl, fl, h3⟩
      case round =>
        obtain ⟨j', a', hj', rfl, fl', h5⟩ := hrel
        by_cases hlt : j' < 1000
        · have i1 : (j' : Int) < 1000 := by omega
          obtain ⟨p1, p2, fl2⟩ := fill_next fl' hlt at_ 1 (by omega) (by omega) (by omega) (by omega) (show at_ ≤ 1000 + at_ by omega)
          have yp := oput8_any fl'.ok (by have := fl'.n; omega) at_ 1 [] (by omega) (by omega) (by omega) (by omega) (Nat.zero_le _) h5
          rw [p1, p2, show bs [] = { data := #[] } from rfl] at yp
          clear p1 p2
          go_wp2_with fail
          (with_reducible refine yp.mono ?_)
          rintro e w4 ⟨rfl, h4, hK4⟩
          go_wp2_with fail
          go_roundw
          case rel => exact ⟨j' + 1, _, by omega, by go_num, fl2, h4⟩
          case measure => simp [intOf]; omega
        · obtain rfl : j' = 1000 := by omega
          clear h3 fl hlt
          have i1 : ¬ ((1000 : Nat) : Int) < 1000 := by omega
          have ok := fl'.ok
          have nn := fl'.n
          obtain ⟨p1, p2, p3⟩ := full_put fl'.len 0 1 [] (by decide) (by decide) (by decide) (by decide)
          obtain ⟨d1, d2, d3⟩ := full_dbl fl'
          obtain ⟨x, t1, t2, t3, t4, t5⟩ := full_tak (by omega) fl'
          have okt := tak_ok ok 1099511627776
          have nb : a'.n ≤ 1000000 := by omega
          have nbt : (takS a' 1099511627776).n ≤ 1000000 := by omega
          have r1 : putE (takS a' 1099511627776) 0 1 [] = 0 := by
            unfold putE
            rw [if_neg (by decide), if_neg (by omega)]
          have r2 : putN (takS a' 1099511627776) 0 1 [] = 1001 := by unfold putN; rw [if_pos r1, t5]; rfl
          have r3 : (putS (takS a' 1099511627776) 0 1 []).l.length = 1000 := by
            unfold putS
            rw [if_pos r1]
            show (layL _ _).length = _
            rw [layL_length, t4]
          have okp := put_ok okt 0 1 [] (by decide)
          have nbp : (putS (takS a' 1099511627776) 0 1 []).n ≤ 1000000 := by
            have := put_n (takS a' 1099511627776) 0 1 []
            omega
          have y1 := oput8_any ok nb 0 1 [] (by decide) (by decide) (by decide) (by decide) (Nat.zero_le _) h5
          rw [p1, p2, p3, show bs [] = { data := #[] } from rfl] at y1
          have y2 := fun w' K (h : One8 w w' K pc a') => odbl8_any ok nb 1 5 (by decide) (by decide) (by decide) (by decide) h
          rw [d1, d2, d3] at y2
          have y3 := fun w' K (h : One8 w w' K pc a') => otak8_any ok nb 1099511627776 (by decide) (by decide) h
          rw [t1, t3] at y3
          have y4 := fun w' K (h : One8 w w' K pc (takS a' 1099511627776)) => oput8_any okt nbt 0 1 [] (by decide) (by decide) (by decide) (by decide) (Nat.zero_le _) h
          rw [r1, r2, show bs [] = { data := #[] } from rfl] at y4
          generalize takS a' 1099511627776 = b1 at *
          have y5 := fun w' K (h : One8 w w' K pc (putS b1 0 1 [])) => olist8_any okp nbp h
          generalize putS b1 0 1 [] = b2 at *
          have R3 := Lib.hid r3
          have u5 : IntKind.i64.wrap (1000 + at_) = 1000 + at_ := by rw [IntKind.wrap_i64]; omega
          clear p1 p2 p3 d1 d2 d3 t1 t3 t4 t5 r1 r2 r3 fl' okt okp
          go_wp2_with fail
          (with_reducible refine y1.mono ?_)
          clear y1
          rintro e w4 ⟨rfl, h6, _⟩
          go_wp2_with fail
          (with_reducible refine (y2 _ _ h6).mono ?_)
          rintro e w5 ⟨rfl, h7, _⟩
          go_wp2_with fail
          (with_reducible refine (y3 _ _ h7).mono ?_)
          rintro e w6 ⟨rfl, h8, _⟩
          have hA : Below w6.heap.size w6 (w6.alloc (.cells #[.int .i64 x.at_, .int .i64 x.kind, .string (bs x.data), .int .i64 x.ticket] 39)) := (Below.refl _ _).alloc (Nat.le_refl _) _
          have h9 := (h8.more hA).less (K' := fun k => k = w6.heap.size) (fun k hk => .inr (by rw [World.size_alloc]; omega))
          have hb9 := heap_alloc_new w6 (.cells #[.int .i64 x.at_, .int .i64 x.kind, .string (bs x.data), .int .i64 x.ticket] 39)
          clear y2 y3 h5 h6 h7 h8
          have y4 := y4 _ _ h9
          go_wp2_with fail
          (with_reducible refine y4.mono ?_)
          clear y4
          generalize w6.alloc (.cells #[.int .i64 x.at_, .int .i64 x.kind, .string (bs x.data), .int .i64 x.ticket] 39) = w7 at *
          rintro e w8 ⟨rfl, h10, hK⟩
          obtain ⟨c0, c1, c2, c3⟩ := four_cells ((hK _ rfl).trans hb9)
          have lz := h10.low _ rfl
          clear hK hb9 h9 hA
          go_wp2_with fail
          (with_reducible refine (y5 _ _ h10).mono ?_)
          clear y5
          rintro e w9 ⟨v9, rfl, hs9, hB9⟩
          have h11 := h10.kept hB9
          obtain ⟨x9, c9, rfl⟩ := hs9.slice
          rw [R3.out]
          clear hs9 hB9 h10
          go_wp2_with fail
          (with_reducible refine (cz _).mono ?_)
          rintro e w10 ⟨rfl, hB10⟩
          go_wp2_with fail
          go_ret
          exact ⟨rfl, h11.below.trans (hB10.mono h11.below.size)⟩
set_option maxRecDepth 100000 in
theorem lifted (os : Os) (started : os.Started) (H : Type) (enc : TypeId × Value → H) :
    ReturnsInHanded {} Try.checked os 6 .any (Rows.agendaFullSpec.pre6 enc Try.prog Try.f6 Rows.agendaFullRow.domain false) (Rows.agendaFullSpec.post enc Try.prog Try.f6 false true false false) := by
  refine returnsInHanded_of_change (C := Try.checked) own started (by kernel_rfl) Try.func6
    (ChangeSpec.witness6 (enc := enc) (C := Try.checked) false ⟨#[], #[.int .u8 0, .int .u16 0], []⟩ 8 (by kernel_rfl) (by kernel_rfl) (by kernel_rfl) (by kernel_rfl)) ?_
  intro W base args ds gs before hval0 hW hcnd _
  have hval : ∀ (j : Nat) t v, Try.f6.params[j]? = some t → args[j]? = some v → Value.okWide Try.prog W .any base t v := hval0
  have hW' := hW
  obtain ⟨p, q, hA0, hV, rfl, hfz, hnd⟩ := hW
  have hA : DataW.TrodAll enc Try.prog W 0 (fun _ => true) true Try.f6.params.toList args.toList ds p := hA0
  rw [Try.params6] at hA hval
  obtain ⟨v0, vs0, d0, ds0, p0, q0, hargs, rfl, rfl, h0, r0⟩ := trodAll_cons hA
  obtain ⟨v1, vs1, d1, ds1, p1, q1, rfl, rfl, rfl, h1, r1⟩ := trodAll_cons r0
  obtain ⟨rfl, rfl, rfl⟩ := trodAll_nil r1
  obtain rfl : args = #[v0, v1] := by cases args; simp_all
  obtain ⟨rfl, rfl⟩ := trodVars_none hV
  obtain ⟨a0, rfl, rfl, rfl, w0⟩ := open_int Try.underlying5 (hval 0 5 v0 rfl rfl) h0
  obtain ⟨a1, rfl, rfl, rfl, w1⟩ := open_int Try.underlying48 (hval 1 48 v1 rfl rfl) h1
  clear hA0 hval0
  refine (walk a0 a1 W w0 w1).mono fun e W' ⟨he, bel⟩ => ?_
  subst he
  exact ⟨_, rfl, _, _, _, [], _, [], hW', trodAll_mk1 (shut_bool Try.underlying4 _), (trodAll_cons_mk (shut_int Try.underlying5 w0) (trodAll_cons_mk (shut_int Try.underlying48 w1) trodAll_mk0)), rfl, bel.frame _, fun h => by cases h⟩

theorem over : Rows.agendaFullRow.holds Try.pinned (OpenSpec.ofChange Rows.agendaFullSpec) :=
  OpenClaim.holds_of_wide 6 Try.f6 rfl rfl rfl rfl rfl rfl rfl ⟨rfl, rfl, rfl, rfl, rfl⟩ rfl rfl rfl rfl rfl (by kernel_rfl) Try.func6 (by kernel_rfl)
    (of_decide_eq_true (by kernel_rfl)) (by unfold Func.isWrapper; first | (rw [if_pos (by decide +kernel)]; kernel_rfl) | (rw [if_neg (by decide +kernel)]; exact ⟨rfl, rfl⟩))
    (fun os started H enc _ => lifted os started H enc)

theorem proved : Rows.AgendaFullSaid := over
end Go.Proofs.Ytcnfidfpgohpoaa.AgendaFull
