/- LedgerSince: for every list of at most 200 corrections, a raw time, a gap and a rate: what a clock was corrected by since some time is what was corrected then, and what its rates come to. (A longer one is let go by the statement itself.) No condition. -/
import Derived.Test.YtaklalpbncdijaaLgG
import Derived.Test.YtaklalpbncdijaaFixZ
import Derived.WalkKit
import Derived.WalkSpells
import Derived.WalkLawsBesides
import Derived.Lib.Hide
import Derived.Handy
import Derived.ProofKit
import Derived.OpenShut
import Derived.ShutString
import Derived.ChangeOld
import Derived.Below
import Derived.Deep.RegionHeld3
namespace Go.Proofs.Ytaklalpbncdijaa.LedgerSince
open Go.Proofs.Ytaklalpbncdijaa.W
open Go.ChangeShapes Go.WideShapes Go.ChangeAt Go.RowKit
open Go.ChangeMaps (open_string shut_string)
set_option linter.unusedVariables false
theorem own : ownKnob Try.prog.godebug = none := by kernel_rfl
theorem laidOut : laidOutB Try.prog = true := by kernel_rfl
open Go.Sort
set_option linter.unusedSimpArgs false
theorem row_at {q : IntKind} {w : World} {a : Option Addr} {len cap : Nat} {zs : List Int} (h : IsRow q w a len cap zs) :
    ∃ z : List Int, z.length = len ∧ (∀ y ∈ z, (Lit.int q y).wf = true) ∧ (z.length = 0 ∨ ∃ b off, a = some ⟨b, off, none⟩ ∧ b < w.heap.size ∧ ∀ i y, z[i]? = some y → w.cell? ⟨b, off + i, none⟩ = some (.int q y)) := by
  rcases h with ⟨rfl, rfl, rfl, rfl⟩ | ⟨x, rfl, hl, hm, hz, hc, hw⟩
  · exact ⟨[], rfl, by simp, .inl rfl⟩
  · refine ⟨zs.take len, by simp; omega, fun y hy => hw y (List.mem_of_mem_take hy), ?_⟩
    by_cases h0 : len = 0
    · subst h0; exact .inl (by simp)
    · have c0 := hc 0 (by omega)
      obtain ⟨b, off, spot⟩ := x
      have hs : spot = none := by simpa [Addr.add] using World.cell?_spot c0
      subst hs
      refine .inr ⟨b, off, rfl, by simpa [Addr.add] using World.block_lt_of_cell? w _ c0, fun k y hk => ?_⟩
      have hk1 := (List.getElem?_eq_some_iff.1 hk).1
      have hk2 : k < len := by simp at hk1; omega
      have ck := hc k (by omega)
      rw [Addr.add_lit] at ck
      rw [List.getElem?_take_of_lt hk2] at hk
      rw [ck, List.getD_eq_getElem?_getD, hk]
      rfl
theorem cor_zero {c : Ck} (ok : c.Ok) (hs : c.speed = 0) (n b : Int) (h0 : 0 ≤ n) (h1 : n ≤ 4611686018427387904) (hl : c.last ≤ n) (b0 : -32768 ≤ b) (b1 : b ≤ 32767) (hk : c.l.length < 1000) (hr : -10000000 ≤ c.sum ∧ c.sum ≤ 10000000) :
    corE c n b = 0 ∧ ∀ st, corS c n b st = ⟨n, c.sum + b, 0, c.l ++ [⟨n, b, st⟩]⟩ := by
  have e : totE c n = 0 := by unfold totE; rw [if_neg (by omega), if_neg (by omega)]
  have e2 : corE c n b = 0 := by unfold corE; rw [if_neg (by omega), if_neg (by omega), if_neg (by omega)]
  refine ⟨e2, fun st => ?_⟩
  unfold corS
  rw [if_pos e2, tot_new c ok n hs, hs]
  unfold addI
  rw [cutI_in _ (by omega) (by omega)]
theorem since_rate {c : Ck} (n s r g : Int) (h0 : 0 ≤ n) (h1 : n ≤ 4611686018427387904) (hl : c.last ≤ n) (hn : c.last = n - g * 4294967296) (hs : c.sum = s) (hr : c.speed = r) (s0 : -10000000 ≤ s) (s1 : s ≤ 10000000) (r0 : -1073741824 ≤ r) (r1 : r ≤ 1073741824) (g0 : 0 ≤ g) (g1 : g ≤ 65535) :
    totE c n = 0 ∧ sinV c n s = r * g ∧ -100000000000000 ≤ r * g ∧ r * g ≤ 100000000000000 := by
  have e : totE c n = 0 := by unfold totE; rw [if_neg (by omega), if_neg (by omega)]
  have p1 : r * g ≤ 1073741824 * g := Int.mul_le_mul_of_nonneg_right r1 g0
  have p0 : -1073741824 * g ≤ r * g := Int.mul_le_mul_of_nonneg_right r0 g0
  have hd : n - c.last = g * 4294967296 := by omega
  refine ⟨e, ?_, by omega, by omega⟩
  unfold sinV
  rw [if_pos e]
  unfold tot mulI addI subI
  rw [hs, hr, hd, ← Int.mul_assoc, Int.mul_ediv_cancel _ (by decide)]
  generalize r * g = p at *
  rw [cutI_in p (by omega) (by omega), cutI_in (s + p) (by omega) (by omega), cutI_in _ (by omega) (by omega)]
  omega
theorem i32_bounds {a : Int} (h : (Lit.int .i32 a).wf = true) : -2147483648 ≤ a ∧ a ≤ 2147483647 := by have := bounds_i32 h; omega
theorem u32_bounds {a : Int} (h : (Lit.int .u32 a).wf = true) : 0 ≤ a ∧ a ≤ 4294967295 := by have := bounds_u32 h; omega
theorem u16_bounds {a : Int} (h : (Lit.int .u16 a).wf = true) : 0 ≤ a ∧ a ≤ 65535 := by have := bounds_u16 h; omega
theorem i16_bounds {a : Int} (h : (Lit.int .i16 a).wf = true) : -32768 ≤ a ∧ a ≤ 32767 := by have := bounds_i16 h; omega
set_option maxRecDepth 100000 in
set_option maxHeartbeats 12800000 in
theorem walk (a0 : Option Addr) (len0 cap0 : Nat) (z0 : List Int) (a1 a2 a3 : Int) (w : World) (w0 : IsRow .i16 w a0 len0 cap0 z0) (w1 : (Lit.int .i32 a1).wf = true) (w2 : (Lit.int .u32 a2).wf = true) (w3 : (Lit.int .u16 a3).wf = true) :
    Calls Try.prog 5 #[.slice a0 len0 cap0, .int .i32 a1, .int .u32 a2, .int .u16 a3] w fun e w' => e = .returned (.bool true) ∧ Below w.heap.size w w' := by
  obtain ⟨l1, u1⟩ := i32_bounds w1
  obtain ⟨l2, u2⟩ := u32_bounds w2
  obtain ⟨l3, u3⟩ := u16_bounds w3
  obtain ⟨z, rfl, hzw, hz⟩ := row_at w0
  have cz := shown7_any
  clear w0 w1 w2 w3
  by_cases hl : 200 < z.length
  · have hli : 200 < (z.length : Int) := by omega
    clear hz hzw
    go_enter Try.func5, Try.ntmps5
    go_wp2_with fail
    (with_reducible refine (cz _).mono ?_)
    rintro e w1 ⟨rfl, hB⟩
    go_wp2_with fail
    go_ret
    exact ⟨rfl, hB⟩
  · have hli : ¬ 200 < (z.length : Int) := by omega
    have c1 := fun w' (h : Below w.heap.size w w') => onew_any a2 (by omega) (by omega) w w' h
    have okn := new_ok a2
    have hlast : (newS a2).last = a2 := by show max 0 (min a2 4611686018427387904) = a2; omega
    have hspeed : (newS a2).speed = 0 := rfl
    have hsum : (newS a2).sum = 0 := rfl
    have hnl : (newS a2).l.length = 0 := rfl
    have e1 : totE (newS a2) a2 = 0 := by unfold totE; rw [if_neg (by omega), if_neg (by omega)]
    have e2 : totV (newS a2) a2 = 0 := by rw [rtot_zero e1, tot_new _ okn _ hspeed, hsum]
    have c2 := fun w' pc (h : One w w' pc (newS a2)) => otot_any okn a2 (by omega) (by omega) h
    rw [e1, e2] at c2
    generalize newS a2 = cn at *
    have HZ := Lib.hid hz
    have HW := Lib.hid hzw
    clear e1 e2 hz hzw
    go_enter Try.func5, Try.ntmps5
    go_wp2_with fail
    (with_reducible refine (cz _).mono ?_)
    rintro e w1 ⟨rfl, hB⟩
    go_wp2_with fail
    (with_reducible refine (c1 _ hB).mono ?_)
    rintro e w2 ⟨pc, rfl, h1⟩
    go_wp2_with fail
    (with_reducible refine (c2 _ _ h1).mono ?_)
    rintro e w3 ⟨rfl, h3⟩
    clear hB h1 c1 c2
    go_wp2_with fail
    go_loopw [12, 13, 14] (fun sv nv iv wr => ∃ (k : Nat) (s n : Int) (cc : Ck), k ≤ z.length ∧ iv = .int .i64 k ∧ sv = .int .i64 s ∧ nv = .int .i64 n ∧ One w wr pc cc ∧ cc.Ok ∧ cc.speed = 0 ∧ cc.sum = s ∧ cc.last ≤ n ∧ 0 ≤ n ∧ n ≤ 4294967295 + 65535 * k ∧ cc.l.length = k ∧ -32768 * k ≤ s ∧ s ≤ 32768 * k) (fun _ _ iv _ => z.length - (intOf iv).toNat)
    case atStart => exact ⟨0, 0, a2, cn, Nat.zero_le _, rfl, rfl, rfl, h3, okn, hspeed, hsum, by omega, by omega, by omega, hnl, by omega, by omega⟩
    case round =>
      obtain ⟨k, s, n, cc, hk, rfl, rfl, rfl, h4, okc, q1, q2, q3, q4, q5, q6, q7, q8⟩ := hrel
      by_cases hlt : k < z.length
      · obtain ⟨y, hy, hym⟩ := at_index z k hlt
        obtain ⟨y0, y1⟩ := i16_bounds (HW.out y hym)
        rcases HZ.out with hz0 | ⟨b, off, rfl, hbl, hc⟩
        · omega
        · have a0' : w.cell? ⟨b, off + k, none⟩ = some (.int .i16 y) := hc k y hy
          have x1 := ((bcell h4.below).1 b (off + k) hbl).trans a0'
          obtain ⟨d1, d2⟩ := cor_zero okc q1 n y q4 (by omega) q3 y0 y1 (by omega) (by omega)
          have okn2 := fun st => cor_ok okc n y st
          have yc := fun st w' (h : One w w' pc cc) => ocor_any okc n y st (by omega) (by omega) (by omega) (by omega) h
          rw [d1] at yc
          have i0 : (0 : Int) ≤ (k : Int) := by omega
          have i1 : (k : Int) < (z.length : Int) := by omega
          have t1 : IntKind.i64.wrap y = y := by rw [IntKind.wrap_i64]; omega
          have t2 : IntKind.i64.wrap (s + y) = s + y := by rw [IntKind.wrap_i64]; omega
          have t3 : IntKind.i64.wrap a3 = a3 := by rw [IntKind.wrap_i64]; omega
          have t4 : IntKind.i64.wrap (n + a3) = n + a3 := by rw [IntKind.wrap_i64]; omega
          have D2 := Lib.hid d2
          have A0 := Lib.hid a0'
          clear d1 d2 hc hy a0'
          go_wp2_with fail
          (with_reducible refine (yc _ _ h4).mono ?_)
          rintro e w5 ⟨rfl, h5⟩
          have x2 := ((bcell h5.below).1 b (off + k) hbl).trans A0.out
          go_wp2_with fail
          go_roundw
          case rel =>
            generalize ((k : Int) % 2 == 0) = st at h5
            have ok5 := okn2 st
            rw [D2.out] at h5 ok5
            exact ⟨k + 1, s + y, n + a3, _, by omega, by go_num, rfl, rfl, h5, ok5, rfl, by rw [← q2], (show n ≤ n + a3 by omega), by omega, by omega, by simp [q6], by omega, by omega⟩
          case measure => simp [intOf]; omega
      · obtain rfl : k = z.length := by omega
        have hr : ∃ r : Int, r = a1.tdiv 2 ∧ -1073741824 ≤ r ∧ r ≤ 1073741824 := by
          refine ⟨_, rfl, ?_⟩
          by_cases h : 0 ≤ a1
          · rw [Int.tdiv_eq_ediv_of_nonneg h]
            omega
          · have e : a1 = -(-a1) := by omega
            rw [e, Int.neg_tdiv, Int.tdiv_eq_ediv_of_nonneg (by omega)]
            omega
        obtain ⟨r, hr, r0, r1⟩ := hr
        have e3 : totE cc n = 0 := by unfold totE; rw [if_neg (by omega), if_neg (by omega)]
        have e4 : tot cc n = s := by rw [tot_new cc okc n q1, q2]
        have e5 : sinV cc n 0 = s := by
          unfold sinV
          rw [if_pos e3, e4]
          unfold subI
          rw [cutI_in _ (by omega) (by omega)]
          omega
        have e6 : ratE cc n r = 0 := by unfold ratE; rw [if_neg (by omega), if_neg (by omega)]
        have e7 : ratS cc n r = ⟨n, s, r, cc.l⟩ := by unfold ratS; rw [if_pos e6, e4]
        have ok2 := rat_ok okc n r
        obtain ⟨f1, f2, f3, f4⟩ := since_rate (c := ratS cc n r) (n + a3 * 4294967296) s r a3 (by omega) (by omega) (by rw [e7]; show n ≤ n + a3 * 4294967296; omega) (by rw [e7]; show n = n + a3 * 4294967296 - a3 * 4294967296; omega) (by rw [e7]) (by rw [e7]) (by omega) (by omega) r0 r1 l3 u3
        have y1 := fun w' (h : One w w' pc cc) => osince_any okc n 0 (by omega) (by omega) (by decide) (by decide) h
        have y2 := fun w' (h : One w w' pc cc) => oent_any okc h
        have y3 := fun w' (h : One w w' pc cc) => orate_any okc n r (by omega) (by omega) (by omega) (by omega) h
        have y4 := fun w' (h : One w w' pc (ratS cc n r)) => osince_any ok2 (n + a3 * 4294967296) s (by omega) (by omega) (by omega) (by omega) h
        rw [e5, e3] at y1
        rw [q6] at y2
        rw [e6] at y3
        rw [f2, f1] at y4
        have t1 : IntKind.i64.wrap a1 = a1 := by rw [IntKind.wrap_i64]; omega
        have t2 : IntKind.i64.wrap r = r := by rw [IntKind.wrap_i64]; omega
        have t3 : IntKind.i64.wrap a3 = a3 := by rw [IntKind.wrap_i64]; omega
        have t4 : IntKind.i64.wrap (a3 * 4294967296) = a3 * 4294967296 := by rw [IntKind.wrap_i64]; omega
        have t5 : IntKind.i64.wrap (n + a3 * 4294967296) = n + a3 * 4294967296 := by rw [IntKind.wrap_i64]; omega
        have t6 : IntKind.i64.wrap (r * a3) = r * a3 := by rw [IntKind.wrap_i64]; generalize r * a3 = p at *; omega
        generalize ratS cc n r = c9 at *
        clear e3 e4 e5 e6 e7 f1 f2 f3 f4 hlast hspeed hsum hnl
        subst hr
        go_wp2_with fail
        (with_reducible refine (y1 _ h4).mono ?_)
        rintro e w5 ⟨rfl, h5⟩
        go_wp2_with fail
        (with_reducible refine (y2 _ h5).mono ?_)
        rintro e w6 ⟨x6, p6, rfl, h6⟩
        go_wp2_with fail
        (with_reducible refine (y3 _ h6).mono ?_)
        rintro e w7 ⟨rfl, h7⟩
        go_wp2_with fail
        (with_reducible refine (y4 _ h7).mono ?_)
        rintro e w8 ⟨rfl, h8⟩
        go_wp2_with fail
        go_ret
        exact ⟨rfl, h8.below⟩
set_option maxRecDepth 100000 in
theorem lifted (os : Os) (started : os.Started) (H : Type) (enc : TypeId × Value → H) :
    ReturnsInHanded {} Try.checked os 5 .any (Rows.ledgerSinceSpec.pre6 enc Try.prog Try.f5 Rows.ledgerSinceRow.domain false) (Rows.ledgerSinceSpec.post enc Try.prog Try.f5 false true false false) := by
  refine returnsInHanded_of_change (C := Try.checked) own started (by kernel_rfl) Try.func5
    (ChangeSpec.witness6 (enc := enc) (C := Try.checked) false ⟨#[], #[.slice none 0 0, .int .i32 0, .int .u32 0, .int .u16 0], []⟩ 8 (by kernel_rfl) (by kernel_rfl) (by kernel_rfl) (by kernel_rfl)) ?_
  intro W base args ds gs before hval0 hW hcnd _
  have hval : ∀ (j : Nat) t v, Try.f5.params[j]? = some t → args[j]? = some v → Value.okWide Try.prog W .any base t v := hval0
  have hW' := hW
  obtain ⟨p, q, hA0, hV, rfl, hfz, hnd⟩ := hW
  have hA : DataW.TrodAll enc Try.prog W 0 (fun _ => true) true Try.f5.params.toList args.toList ds p := hA0
  rw [Try.params5] at hA hval
  obtain ⟨v0, vs0, d0, ds0, p0, q0, hargs, rfl, rfl, h0, r0⟩ := trodAll_cons hA
  obtain ⟨v1, vs1, d1, ds1, p1, q1, rfl, rfl, rfl, h1, r1⟩ := trodAll_cons r0
  obtain ⟨v2, vs2, d2, ds2, p2, q2, rfl, rfl, rfl, h2, r2⟩ := trodAll_cons r1
  obtain ⟨v3, vs3, d3, ds3, p3, q3, rfl, rfl, rfl, h3, r3⟩ := trodAll_cons r2
  obtain ⟨rfl, rfl, rfl⟩ := trodAll_nil r3
  obtain rfl : args = #[v0, v1, v2, v3] := by cases args; simp_all
  obtain ⟨rfl, rfl⟩ := trodVars_none hV
  obtain ⟨a0, len0, cap0, rfl⟩ := okWide_slice Try.underlying44 (hval 0 44 v0 rfl rfl)
  have k0 := h0
  have lt0 : ∀ x ∈ p0, x.block < W.heap.size := by obtain ⟨m, hm⟩ := k0; exact DataW.trod_lt m _ _ _ hm
  obtain ⟨z0, w0⟩ : ∃ zs, IsRow .i16 W a0 len0 cap0 zs := by
    obtain ⟨fuel, hf⟩ := h0
    rcases open_ints Try.underlying44 Try.underlying48 (by kernel_rfl) hf with ⟨hcs, _⟩ | ⟨x, l, c, zs, hcs, _, hl, hm, hz, _, hcell, hwz⟩
    · simp [Value.cells] at hcs
      obtain ⟨rfl, rfl, rfl⟩ := hcs
      exact ⟨[], .inl ⟨rfl, rfl, rfl, rfl⟩⟩
    · simp [Value.cells] at hcs
      obtain ⟨rfl, rfl, rfl⟩ := hcs
      exact ⟨zs, .inr ⟨_, rfl, hl, hm, by simpa using hz, hcell, hwz⟩⟩
  obtain ⟨a1, rfl, rfl, rfl, w1⟩ := open_int Try.underlying21 (hval 1 21 v1 rfl rfl) h1
  obtain ⟨a2, rfl, rfl, rfl, w2⟩ := open_int Try.underlying45 (hval 2 45 v2 rfl rfl) h2
  obtain ⟨a3, rfl, rfl, rfl, w3⟩ := open_int Try.underlying46 (hval 3 46 v3 rfl rfl) h3
  clear hA0 hval0
  refine (walk a0 len0 cap0 z0 a1 a2 a3 W w0 w1 w2 w3).mono fun e W' ⟨he, bel⟩ => ?_
  subst he
  exact ⟨_, rfl, _, _, _, [], _, [], hW', trodAll_mk1 (shut_bool Try.underlying4 _), (trodAll_cons_mk (Below.trod laidOut (by kernel_rfl) (of_decide_eq_true (by kernel_rfl)) k0 bel lt0) (trodAll_cons_mk (shut_int Try.underlying21 w1) (trodAll_cons_mk (shut_int Try.underlying45 w2) (trodAll_cons_mk (shut_int Try.underlying46 w3) trodAll_mk0)))), rfl, bel.frame _, fun h => by cases h⟩

theorem over : Rows.ledgerSinceRow.holds Try.pinned (OpenSpec.ofChange Rows.ledgerSinceSpec) :=
  OpenClaim.holds_of_wide 5 Try.f5 rfl rfl rfl rfl rfl rfl rfl ⟨rfl, rfl, rfl, rfl, rfl⟩ rfl rfl rfl rfl rfl (by kernel_rfl) Try.func5 (by kernel_rfl)
    (of_decide_eq_true (by kernel_rfl)) (by unfold Func.isWrapper; first | (rw [if_pos (by decide +kernel)]; kernel_rfl) | (rw [if_neg (by decide +kernel)]; exact ⟨rfl, rfl⟩))
    (fun os started H enc _ => lifted os started H enc)

theorem proved : Rows.LedgerSinceSaid := over
end Go.Proofs.Ytaklalpbncdijaa.LedgerSince
