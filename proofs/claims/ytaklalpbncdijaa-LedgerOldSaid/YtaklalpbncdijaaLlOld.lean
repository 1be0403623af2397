/- LedgerOld: for every list of at most 200 calls: nothing is corrected, or read, at a time that is gone, or is none; what is refused changes nothing. (A longer one is let go by the statement itself.) No condition. -/
import Derived.Test.YtaklalpbncdijaaLgG
import Derived.Test.YtaklalpbncdijaaLgZ
import Derived.Test.YtaklalpbncdijaaFixZ
import Derived.WalkKit
import Derived.WalkSpells
import Derived.WalkLawsBesides
import Derived.Lib.Hide
import Derived.Handy
import Derived.ProofKit
import Derived.OpenShut
import Derived.ShutString
import Derived.ChangeOld
import Derived.Below
import Derived.Deep.RegionHeld3
namespace Go.Proofs.Ytaklalpbncdijaa.LedgerOld
open Go.Proofs.Ytaklalpbncdijaa.W
open Go.ChangeShapes Go.WideShapes Go.ChangeAt Go.RowKit
open Go.ChangeMaps (open_string shut_string)
set_option linter.unusedVariables false
theorem own : ownKnob Try.prog.godebug = none := by kernel_rfl
theorem laidOut : laidOutB Try.prog = true := by kernel_rfl
open Go.Sort
set_option linter.unusedSimpArgs false
theorem act_at {w0 w : World} {b : Nat} {off : Nat} {k : Nat} {a : Ac} (hB : Below w0.heap.size w0 w) (hb : b < w0.heap.size) (hc : ∀ j u, (acE a)[j]? = some u → w0.cell? ⟨b, off + k * 4 + j, none⟩ = some u) :
    w.cell? ⟨b, off + k * 4, none⟩ = some (.int .i64 a.kind) ∧ w.cell? ⟨b, off + k * 4 + 1, none⟩ = some (.int .i64 a.raw) ∧ w.cell? ⟨b, off + k * 4 + 2, none⟩ = some (.int .i64 a.by_) ∧ w.cell? ⟨b, off + k * 4 + 3, none⟩ = some (.bool a.step) :=
  ⟨((bcell hB).1 b _ hb).trans (hc 0 _ rfl), ((bcell hB).1 b _ hb).trans (hc 1 _ rfl), ((bcell hB).1 b _ hb).trans (hc 2 _ rfl), ((bcell hB).1 b _ hb).trans (hc 3 _ rfl)⟩
theorem gone_err {c : Ck} (ok : c.Ok) (d : Int) (h0 : 0 ≤ d) (g : Int) (hg : g = c.last - 1 - d) (v : Int) (hv : v = if g < 0 then 1 else 5) : totE c g = v ∧ (∀ b, corE c g b = v) ∧ (∀ b st, corS c g b st = c) ∧ (∀ r, ratE c g r = v) ∧ ∀ r, ratS c g r = c := by
  have hl := ok.last
  have e : totE c g = v := by
    unfold totE
    rw [hv]
    by_cases h : g < 0
    · rw [if_pos (.inl h), if_pos h]
    · rw [if_neg (by omega), if_pos (by omega), if_neg h]
  have hne : totE c g ≠ 0 := by
    rw [e, hv]
    split <;> decide
  have e2 : ∀ b, corE c g b = v := fun b => by unfold corE; rw [if_pos hne, e]
  have e3 : ∀ r, ratE c g r = v := fun r => by unfold ratE; rw [if_pos hne, e]
  exact ⟨e, e2, fun b st => by unfold corS; rw [e2, ← e, if_neg hne], e3, fun r => by unfold ratS; rw [e3, ← e, if_neg hne]⟩
theorem far_err (c : Ck) : (∀ b, corE c 4611686018427387905 b = 1) ∧ ∀ b st, corS c 4611686018427387905 b st = c := by
  have e : totE c 4611686018427387905 = 1 := by unfold totE; rw [if_pos (.inr (by decide))]
  have e2 : ∀ b, corE c 4611686018427387905 b = 1 := fun b => by unfold corE; rw [e]; rfl
  exact ⟨e2, fun b st => by unfold corS; rw [e2]; rfl⟩
set_option maxRecDepth 100000 in
set_option maxHeartbeats 12800000 in
theorem walk (v0 : Value) (l : List Ac) (a1 a2 a3 : Int) (w : World) (iv : SlAt (fun b => b < w.heap.size) 4 acE w v0 l) (ty : ∀ f ∈ l, Ac.Typed f) (hlm : l.length ≤ maxLen) (w1 : (Lit.int .u32 a1).wf = true) (w2 : (Lit.int .u16 a2).wf = true) (w3 : (Lit.int .i64 a3).wf = true) :
    Calls Try.prog 6 #[v0, .int .u32 a1, .int .u16 a2, .int .i64 a3] w fun e w' => e = .returned (.bool true) ∧ Below w.heap.size w w' := by
  have hb1 : 0 ≤ a1 ∧ a1 < 4294967296 := by have := bounds_u32 w1; omega
  have hb2 : 0 ≤ a2 ∧ a2 < 65536 := by have := bounds_u16 w2; omega
  obtain ⟨x, c, rfl⟩ := iv.slice
  have cz := shown7_any
  clear w1 w2 w3
  by_cases hl : 200 < l.length
  · have hli : 200 < (l.length : Int) := by omega
    clear iv
    go_enter Try.func6, Try.ntmps6
    go_wp2_with fail
    (with_reducible refine (cz _).mono ?_)
    rintro e w1 ⟨rfl, hB⟩
    go_wp2_with fail
    go_ret
    exact ⟨rfl, hB⟩
  · have hli : ¬ 200 < (l.length : Int) := by omega
    have c1 := fun w' (h : Below w.heap.size w w') => onew_any 0 (by decide) (by decide) w w' h
    have c2 := rnew_any 0 (by decide) (by decide)
    have IV := Lib.hid iv
    clear iv
    go_enter Try.func6, Try.ntmps6
    go_wp2_with fail
    (with_reducible refine (cz _).mono ?_)
    rintro e w1 ⟨rfl, hB⟩
    go_wp2_with fail
    (with_reducible refine (c1 _ hB).mono ?_)
    rintro e w2 ⟨pc, rfl, h1⟩
    go_wp2_with fail
    (with_reducible refine (c2 _).mono ?_)
    rintro e w3 ⟨rfl, hR, hB3⟩
    have hb := bnew h1 hR hB3
    clear h1 hR hB hB3
    generalize w2.heap.size = pr at *
    clear w1 w2
    go_wp2_with fail
    go_loopw [11] (fun i wr => ∃ k : Nat, k ≤ l.length ∧ i = .int .i64 k ∧ Both w wr pc pr (actsS (newS 0) (l.take k))) (fun i _ => l.length - (intOf i).toNat)
    case atStart => exact ⟨0, Nat.zero_le _, rfl, hb⟩
    case round =>
      obtain ⟨k, hk, rfl, hb⟩ := hrel
      have okk := acts_ok (new_ok 0) (l.take k)
      by_cases hlt : k < l.length
      · obtain ⟨f, hf, hfm⟩ := at_index l k hlt
        have hnx := acts_next (newS 0) l k f hf
        generalize actsS (newS 0) (l.take k) = cc at *
        have HN := Lib.hid hnx
        clear hnx
        rcases IV.out with ⟨_, _, _, _, rfl⟩ | ⟨b, off, cap, hv, hbl, hc⟩
        · simp at hlt
        · simp only [Value.slice.injEq] at hv
          obtain ⟨rfl, _, rfl⟩ := hv
          obtain ⟨a0', a1', a2', a3'⟩ := act_at hb.below hbl (hc k f hf)
          have i0 : (0 : Int) ≤ (k : Int) := by omega
          have i1 : (k : Int) < (l.length : Int) := by omega
          have y := does_any okk f (ty f hfm) wr hb
          clear hc hf
          go_wp2_with fail
          refine y.mono ?_
          rintro e w4 ⟨rfl, hb4⟩
          go_wp2_with fail
          go_roundw
          case rel => exact ⟨k + 1, by omega, by go_num, by rw [HN.out]; exact hb4⟩
          case measure => simp [intOf]; omega
      · obtain rfl : k = l.length := by omega
        generalize actsS (newS 0) (l.take l.length) = cc at *
        have y1 := fun w' (h : Both w w' pc pr cc) => bread_any okk 2305843009213693952 (by decide) (by decide) h
        have y2 := fun w' (h : Both w w' pc pr cc) => bent2_any okk h
        have hlast := okk.last
        obtain ⟨v, hv⟩ : ∃ v : Int, v = if cc.last - 1 - a2 < 0 then 1 else 5 := ⟨_, rfl⟩
        obtain ⟨g1, g2, g3, g4, g5⟩ := gone_err okk a2 hb2.1 _ rfl v hv
        obtain ⟨f1, f2⟩ := far_err cc
        have y3 := fun w' (h : One w w' pc cc) => ocor_any okk (cc.last - 1 - a2) 5 true (by omega) (by omega) (by decide) (by decide) h
        have y4 := fun w' (h : One w w' pc cc) => orate_any okk (cc.last - 1 - a2) 5 (by omega) (by omega) (by decide) (by decide) h
        have y5 := fun w' (h : One w w' pc cc) => ocor_any okk 4611686018427387905 5 true (by decide) (by decide) (by decide) (by decide) h
        have y6 := fun w' (h : One w w' pc cc) => oread_any okk (-1 - a1) (by omega) (by omega) h
        have y7 := fun w' (h : One w w' pc cc) => oread_any okk 2305843009213693952 (by decide) (by decide) h
        have y8 := fun w' (h : One w w' pc cc) => oent_any okk h
        have e6 : totE cc (-1 - a1) = 1 := by unfold totE; rw [if_pos (.inl (by omega))]
        rw [g2, g3] at y3
        rw [g4, g5] at y4
        rw [f1, f2] at y5
        rw [e6] at y6
        generalize readV cc (-1 - a1) = rx at *
        generalize readV cc 2305843009213693952 = rd at *
        generalize totE cc 2305843009213693952 = te at *
        have u1 : IntKind.i64.wrap (cc.last - 1) = cc.last - 1 := by rw [IntKind.wrap_i64]; omega
        have u2 : IntKind.i64.wrap (cc.last - 1 - a2) = cc.last - 1 - a2 := by rw [IntKind.wrap_i64]; omega
        have u3' : IntKind.i64.wrap (-1 - a1) = -1 - a1 := by rw [IntKind.wrap_i64]; omega
        clear g1 g2 g3 g4 g5 f1 f2 e6 hlast
        have hcase : (cc.last - 1 - a2 < 0 ∧ v = 1) ∨ (¬ cc.last - 1 - a2 < 0 ∧ v = 5) := by
          by_cases h : cc.last - 1 - a2 < 0
          · exact .inl ⟨h, by rw [hv, if_pos h]⟩
          · exact .inr ⟨h, by rw [hv, if_neg h]⟩
        clear hv
        generalize hgo : cc.last - 1 - a2 = go at *
        rcases hcase with ⟨hg, rfl⟩ | ⟨hg, rfl⟩
        all_goals
          go_wp2_with fail
          (with_reducible refine (y1 _ hb).mono ?_)
          rintro e w5 ⟨rfl, hb5⟩
          go_wp2_with fail
          (with_reducible refine (y2 _ hb5).mono ?_)
          rintro e w6 ⟨x6, c6, rfl, hb6⟩
          obtain ⟨q0, _, _⟩ := hb6.cells
          have h6 := hb6.lone
          go_wp2_with fail
          (with_reducible refine (y3 _ h6).mono ?_)
          rintro e w7 ⟨rfl, h7⟩
          go_wp2_with fail
          (with_reducible refine (y4 _ h7).mono ?_)
          rintro e w8 ⟨rfl, h8⟩
          go_wp2_with fail
          (with_reducible refine (y5 _ h8).mono ?_)
          rintro e w9 ⟨rfl, h9⟩
          go_wp2_with fail
          (with_reducible refine (y6 _ h9).mono ?_)
          rintro e w10 ⟨rfl, h10⟩
          go_wp2_with fail
          (with_reducible refine (y7 _ h10).mono ?_)
          rintro e w11 ⟨rfl, h11⟩
          go_wp2_with fail
          (with_reducible refine (y8 _ h11).mono ?_)
          rintro e w12 ⟨x12, c12, rfl, h12⟩
          go_wp2_with fail
          go_ret
          exact ⟨rfl, h12.below⟩
set_option maxRecDepth 100000 in
theorem lifted (os : Os) (started : os.Started) (H : Type) (enc : TypeId × Value → H) :
    ReturnsInHanded {} Try.checked os 6 .any (Rows.ledgerOldSpec.pre6 enc Try.prog Try.f6 Rows.ledgerOldRow.domain false) (Rows.ledgerOldSpec.post enc Try.prog Try.f6 false true false false) := by
  refine returnsInHanded_of_change (C := Try.checked) own started (by kernel_rfl) Try.func6
    (ChangeSpec.witness6 (enc := enc) (C := Try.checked) false ⟨#[], #[.slice none 0 0, .int .u32 0, .int .u16 0, .int .i64 0], []⟩ 8 (by kernel_rfl) (by kernel_rfl) (by kernel_rfl) (by kernel_rfl)) ?_
  intro W base args ds gs before hval0 hW hcnd _
  have hval : ∀ (j : Nat) t v, Try.f6.params[j]? = some t → args[j]? = some v → Value.okWide Try.prog W .any base t v := hval0
  have hW' := hW
  obtain ⟨p, q, hA0, hV, rfl, hfz, hnd⟩ := hW
  have hA : DataW.TrodAll enc Try.prog W 0 (fun _ => true) true Try.f6.params.toList args.toList ds p := hA0
  rw [Try.params6] at hA hval
  obtain ⟨v0, vs0, d0, ds0, p0, q0, hargs, rfl, rfl, h0, r0⟩ := trodAll_cons hA
  obtain ⟨v1, vs1, d1, ds1, p1, q1, rfl, rfl, rfl, h1, r1⟩ := trodAll_cons r0
  obtain ⟨v2, vs2, d2, ds2, p2, q2, rfl, rfl, rfl, h2, r2⟩ := trodAll_cons r1
  obtain ⟨v3, vs3, d3, ds3, p3, q3, rfl, rfl, rfl, h3, r3⟩ := trodAll_cons r2
  obtain ⟨rfl, rfl, rfl⟩ := trodAll_nil r3
  obtain rfl : args = #[v0, v1, v2, v3] := by cases args; simp_all
  obtain ⟨rfl, rfl⟩ := trodVars_none hV
  have k0 := h0
  have lt0 : ∀ x ∈ p0, x.block < W.heap.size := by obtain ⟨m, hm⟩ := k0; exact DataW.trod_lt m _ _ _ hm
  obtain ⟨a0, len0, cap0, rfl⟩ := okWide_slice Try.underlying22 (hval 0 22 v0 rfl rfl)
  obtain ⟨z0, w0a, w0b, w0c⟩ : ∃ l : List Ac, SlAt (fun b => b < W.heap.size) 4 acE W (.slice a0 len0 cap0) l ∧ (∀ f ∈ l, Ac.Typed f) ∧ l.length ≤ maxLen := by
    obtain ⟨fuel, hf⟩ := h0
    obtain ⟨v, l, hcs, h1, h2, h3⟩ := open_acts hf
    simp [Value.cells] at hcs
    subst hcs
    exact ⟨l, h1, h2, h3⟩
  obtain ⟨a1, rfl, rfl, rfl, w1⟩ := open_int Try.underlying45 (hval 1 45 v1 rfl rfl) h1
  obtain ⟨a2, rfl, rfl, rfl, w2⟩ := open_int Try.underlying46 (hval 2 46 v2 rfl rfl) h2
  obtain ⟨a3, rfl, rfl, rfl, w3⟩ := open_int Try.underlying2 (hval 3 2 v3 rfl rfl) h3
  clear hA0 hval0
  refine (walk (.slice a0 len0 cap0) z0 a1 a2 a3 W w0a w0b w0c w1 w2 w3).mono fun e W' ⟨he, bel⟩ => ?_
  subst he
  exact ⟨_, rfl, _, _, _, [], _, [], hW', trodAll_mk1 (shut_bool Try.underlying4 _), (trodAll_cons_mk (Below.trod laidOut (by kernel_rfl) (of_decide_eq_true (by kernel_rfl)) k0 bel lt0) (trodAll_cons_mk (shut_int Try.underlying45 w1) (trodAll_cons_mk (shut_int Try.underlying46 w2) (trodAll_cons_mk (shut_int Try.underlying2 w3) trodAll_mk0)))), rfl, bel.frame _, fun h => by cases h⟩

theorem over : Rows.ledgerOldRow.holds Try.pinned (OpenSpec.ofChange Rows.ledgerOldSpec) :=
  OpenClaim.holds_of_wide 6 Try.f6 rfl rfl rfl rfl rfl rfl rfl ⟨rfl, rfl, rfl, rfl, rfl⟩ rfl rfl rfl rfl rfl (by kernel_rfl) Try.func6 (by kernel_rfl)
    (of_decide_eq_true (by kernel_rfl)) (by unfold Func.isWrapper; first | (rw [if_pos (by decide +kernel)]; kernel_rfl) | (rw [if_neg (by decide +kernel)]; exact ⟨rfl, rfl⟩))
    (fun os started H enc _ => lifted os started H enc)

theorem proved : Rows.LedgerOldSaid := over
end Go.Proofs.Ytaklalpbncdijaa.LedgerOld
