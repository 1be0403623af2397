/- Layer 17's own code, walked: who is kept. -/
import Derived.Test.YtefjdmbioclddaaCnI
import Derived.WalkMore
namespace Go.Proofs.Ytefjdmbioclddaa.W
open Go.RowKit Go.Sort
set_option linter.unusedVariables false
set_option linter.unusedSimpArgs false
theorem run_maxC (a b m : Int) (h : max a b = m) (ts : Array TypeId) (t : TypeId) (w : World) : (Builtin.max_ ts t #[.int .i64 a, .int .i64 b]).run Try.prog w = .ok (.int .i64 m) w := by
  subst h
  rcases Int.lt_trichotomy a b with h | rfl | h
  · simp [Builtin.max_, Builtin.max2, show max a b = b by omega, h, show ¬ b < a by omega]
  · simp [Builtin.max_, Builtin.max2]
  · simp [Builtin.max_, Builtin.max2, show max a b = a by omega, h, show ¬ a < b by omega]
def slLenC : Value → Nat
  | .slice _ n _ => n
  | _ => 0
theorem own_base17 {w : World} {B B' e k n : Nat} {v : Value} {xs : List Value} (h : w.ownsRow B' e k v n xs) (hb : B ≤ B') : w.ownsRow B e k v n xs := by
  refine ⟨h.1, ?_⟩
  rcases h.2 with h | ⟨g, c, cur, hv, hg, rest⟩
  · exact .inl h
  · exact .inr ⟨g, c, cur, hv, Nat.le_trans hb hg, rest⟩
theorem own_touch17 {w w' : World} {B e k n g : Nat} {v : Value} {xs : List Value} (h : w.ownsRow B e k v n xs) (hne : ∀ b, v.ownBlock = some b → b ≠ g) (T : Touch (fun b => b = g) w w') : w'.ownsRow B e k v n xs := by
  refine h.kept (row := some g) ⟨T.os, T.tape, T.output, T.size, fun k hk hn => T.block k hk (fun e => hn (congrArg some e))⟩ ?_
  cases hv : v.ownBlock with
  | none => exact .inl rfl
  | some b => exact .inr fun e => hne b hv (Option.some.inj e)
theorem now_range (l : List Nd) : nowL l (List.range l.length) = l := by
  unfold nowL
  apply List.ext_getElem
  · simp
  · intro i h1 h2
    simp [List.getD, h2]
theorem now_gone (l : List Nd) (K : List Nat) (a : Nat) : nowL l (goneL K a) = (nowL l K).eraseIdx a := by
  unfold nowL goneL
  rw [List.eraseIdx_eq_take_drop_succ, List.eraseIdx_eq_take_drop_succ, List.map_append, List.map_take, List.map_drop]
theorem plE_length17 (c : Nat) : (plE c).length = 1 := rfl
set_option maxRecDepth 100000 in
set_option maxHeartbeats 12800000 in
theorem cprn_any (l : List Nd) (tl : ∀ c ∈ l, c.Typed) (hl : l.length ≤ 100) (least : Int) (i0 : -9223372036854775808 ≤ least ∧ least ≤ 9223372036854775807) {F : Nat → Prop} {v : Value} (w : World) (hs : SlAt F 3 ndC w v l) (hF : ∀ b, F b → b < w.heap.size) :
    Calls Try.prog 12 #[v, .int .i64 least] w fun e w' => ∃ u, e = .returned (.tuple #[u, .int .i64 (prune l least).2]) ∧ SlAt (fun b => w.heap.size ≤ b ∧ b < w'.heap.size) 1 plE w' u (prune l least).1 ∧ Below w.heap.size w w' := by
  clear i0
  have TL := Lib.hid tl
  have HS := Lib.hid (And.intro hs hF)
  obtain ⟨vx, vc, rfl⟩ := hs.slice
  obtain ⟨mx, hmx⟩ : ∃ mx, max least 1 = mx := ⟨_, rfl⟩
  have hmax := Lib.hid (fun ts t W => run_maxC least 1 mx hmx ts t W)
  have HM := Lib.hid hmx
  have cn := knum_any l.length hl w
  clear hs tl hF hmx
  go_enter Try.func12, Try.ntmps12
  go_wp2
  go_step3
  go_wp2_with fail
  (with_reducible refine cn.mono ?_)
  rintro e w1 ⟨b6, rfl, own6, hB1⟩
  have cc := kclone_any l (by omega) (.slice vx l.length vc) w1 (HS.out.1.kept (fun b hb => hB1.block b (HS.out.2 b hb))) (fun b hb => Nat.lt_of_lt_of_le (HS.out.2 b hb) hB1.size)
  have O6 := Lib.hid (And.intro own6 hB1)
  clear own6 hB1 cn
  go_wp2_with fail
  (with_reducible refine cc.mono ?_)
  rintro e w2 ⟨v7, rfl, own7, hB2⟩
  obtain ⟨own6, hB1⟩ := O6.out
  have cw := cwst_any l TL.out hl w2 (SlAt.own ndC_length17 own7) (fun b hb => hb.2)
  have own6b := own_below17 own6 hB2
  have own7b := own_base17 own7 hB1.size
  have hap : ∀ b, v7.ownBlock = some b → b ≠ b6 := fun b hb e => by
    have h1 := (own7.lt b hb).1
    have h2 := (own6.lt b6 rfl).2
    omega
  have O7 := Lib.hid (And.intro own6b (And.intro own7b (And.intro hap (hB1.trans (hB2.mono hB1.size)))))
  obtain ⟨x7, c7, rfl⟩ := (SlAt.own ndC_length17 own7).slice
  clear own6 own7 own6b own7b hap hB1 hB2 O6 cc
  go_wp2_with fail
  (with_reducible refine cw.mono ?_)
  rintro e w3 ⟨rfl, hB3⟩
  obtain ⟨own6, own7, hap, hB⟩ := O7.out
  have O8 := Lib.hid (And.intro (own_below17 own6 hB3) (And.intro (own_below17 own7 hB3) (And.intro hap (hB.trans (hB3.mono hB.size)))))
  clear own6 own7 hap hB hB3 O7 cw
  go_wp2_with fail
  go_step3
  go_wp2_with fail
  go_loopw [6, 7, 8, 9] (fun o v7 wo ap wr => ∃ (K : List Nat) (g6 c6 : Nat), K.length ≤ l.length ∧ (∀ x ∈ K, x < l.length) ∧ prnP l least K.length K = prune l least ∧ o = .slice (some ⟨g6, 0, none⟩) K.length c6 ∧ wo = .int .i64 ((worstP (nowL l K)).1 : Int) ∧ ap = .int .i64 (worstP (nowL l K)).2 ∧ Hid (wr.ownsRow w.heap.size 3 1 o K.length (K.flatMap plE) ∧ wr.ownsRow w.heap.size 40 3 v7 (nowL l K).length ((nowL l K).flatMap ndC) ∧ (∀ b, v7.ownBlock = some b → b ≠ g6) ∧ Below w.heap.size w wr)) (fun o _ _ _ _ => slLenC o)
  case atStart => exact ⟨List.range l.length, b6, l.length, by simp, fun x hx => List.mem_range.1 hx, by rw [List.length_range]; rfl, by rw [List.length_range], by rw [now_range], by rw [now_range], by rw [now_range, List.length_range]; exact O8⟩
  case round =>
    clear O8
    obtain ⟨K, g6, c6, hKl, hKm, hpr, rfl, rfl, rfl, OR⟩ := hrel
    generalize wr = wo at *
    have hnl : (nowL l K).length = K.length := now_length l K
    have OQ : Hid (wo.ownsRow w.heap.size 3 1 (.slice (some ⟨g6, 0, none⟩) K.length c6) K.length (K.flatMap plE) ∧ Below w.heap.size w wo) := ⟨OR.out.1, OR.out.2.2.2⟩
    have hSN := SlAt.own ndC_length17 OR.out.2.1
    obtain ⟨x7, c7, rfl⟩ := hSN.slice
    have KM := Lib.hid (And.intro hKm hpr)
    obtain ⟨Wp, hW⟩ : ∃ Wp, worstP (nowL l K) = Wp := ⟨_, rfl⟩
    have HW := Lib.hid hW
    have hk100 : K.length ≤ 100 := by omega
    have ck := kcalm_any (nowL l K) (by rw [hnl]; omega) wo hSN (fun b hb => hb.2)
    obtain ⟨q, hq⟩ : ∃ q, quietI (nowL l K) = q := ⟨_, rfl⟩
    have HQ := Lib.hid hq
    rw [hq, hnl] at ck
    have HN := Lib.hid hnl
    rw [hW, hnl]
    have f1 := hmax.out
    clear hW hq hnl hSN hKm hpr
    by_cases hle : (K.length : Int) ≤ mx
    · have e : prune l least = (K, Wp.2) := by
        rw [← KM.out.2, ← HW.out]
        rcases Nat.eq_zero_or_pos K.length with h0 | h0
        · rw [h0]
          rfl
        · obtain ⟨f, hf⟩ : ∃ f, K.length = f + 1 := ⟨K.length - 1, by omega⟩
          rw [hf, prnP, if_pos (by rw [HM.out]; exact hle)]
      have E := Lib.hid e
      clear e ck
      go_wp2_with fail
      rw [Exit.noGoto_ret]
      go_ret2
      refine ⟨_, ?_, SlAt.own plE_length17 (by rw [E.out]; exact OQ.out.1), OQ.out.2⟩
      rw [E.out]
      rfl
    · have hpos : 0 < K.length := by have := HM.out; omega
      obtain ⟨f, hf⟩ : ∃ f, K.length = f + 1 := ⟨K.length - 1, by omega⟩
      have hpn : prnP l least K.length K = if Wp.2 < q then (K, Wp.2) else prnP l least f (goneL K Wp.1) := by
        rw [hf, prnP, if_neg (by rw [HM.out]; exact hle), HW.out, HQ.out]
      have HP := Lib.hid (hpn.symm.trans KM.out.2)
      have HF := Lib.hid hf
      clear hpn hf
      go_wp2_with fail
      (with_reducible refine ck.mono ?_)
      rintro e w4 ⟨rfl, hB4⟩
      have O4 : Hid (w4.ownsRow w.heap.size 3 1 (.slice (some ⟨g6, 0, none⟩) K.length c6) K.length (K.flatMap plE) ∧ w4.ownsRow w.heap.size 40 3 (.slice x7 (nowL l K).length c7) (nowL l K).length ((nowL l K).flatMap ndC) ∧ Below w.heap.size w w4) := ⟨own_below17 OQ.out.1 hB4, own_below17 OR.out.2.1 hB4, OQ.out.2.trans (hB4.mono OQ.out.2.size)⟩
      clear hB4 ck OQ
      by_cases hq : Wp.2 < q
      · have e : prune l least = (K, Wp.2) := by
          rw [← HP.out, if_pos hq]
        have E := Lib.hid e
        clear e
        go_wp2_with fail
        rw [Exit.noGoto_ret]
        go_ret2
        refine ⟨_, ?_, SlAt.own plE_length17 (by rw [E.out]; exact O4.out.1), O4.out.2.2⟩
        rw [E.out]
        rfl
      · have hpg : prnP l least f (goneL K Wp.1) = prune l least := by
          rw [← HP.out, if_neg hq]
        have HG := Lib.hid hpg
        have haK : Wp.1 < K.length := by
          have := worst_at (l := nowL l K) (by rw [HN.out]; exact hpos)
          rw [HN.out, HW.out] at this
          exact this
        obtain ⟨a, ha⟩ : ∃ a, Wp.1 = a := ⟨_, rfl⟩
        obtain ⟨y, hy⟩ : ∃ y, Wp.2 = y := ⟨_, rfl⟩
        rw [ha] at haK HG
        rw [ha, hy]
        rw [hy] at hq
        have hwr : IntKind.i64.wrap ((a : Int) + 1) = ((a + 1 : Nat) : Int) := by rw [IntKind.wrap_i64]; omega
        obtain ⟨g7, c7', hv, _, _⟩ := O4.out.2.1.form (by rw [HN.out]; exact hpos)
        obtain ⟨rfl, _, rfl⟩ := Value.slice.inj hv
        have own7 := O4.out.2.1
        rw [HN.out] at own7
        have cd := kdeli_any O4.out.1 rfl hk100 haK
        have O5 := Lib.hid (And.intro own7 O4.out.2.2)
        have hne : ∀ b, (Value.slice (some ⟨g7, 0, none⟩) K.length c7).ownBlock = some b → b ≠ g6 := fun b hb => OR.out.2.2.1 b hb
        have hne7 : ∀ b, (Value.slice (some ⟨g6, 0, none⟩) (K.length - 1) c6).ownBlock = some b → b ≠ g7 := fun b hb e => by
          have h1 : g6 = b := by simpa [Value.ownBlock] using hb
          exact hne g7 rfl (by omega)
        have NE := Lib.hid (And.intro hne (And.intro hne7 (And.intro (O4.out.1.lt g6 rfl) (O4.out.2.1.lt g7 rfl))))
        obtain ⟨b1, hb1⟩ : ∃ b1, a + 1 = b1 := ⟨_, rfl⟩
        rw [hb1] at hwr cd
        clear hv own7 hne hne7 O4 OR HP ha hy
        go_wp2_with fail
        (with_reducible refine cd.mono ?_)
        rintro e w5 ⟨rfl, o6, T5⟩
        have cd2 := kdeln_any (own_touch17 O5.out.1 NE.out.1 T5) HN.out hk100 haK
        rw [hb1] at cd2
        have O6 := Lib.hid (And.intro o6 T5)
        clear cd o6 T5
        go_wp2_with fail
        (with_reducible refine cd2.mono ?_)
        rintro e w6 ⟨rfl, o7, T6⟩
        obtain ⟨o6, T5⟩ := O6.out
        have p6 := own_touch17 o6 NE.out.2.1 T6
        have hB5 : Below w.heap.size w w5 := T5.below O5.out.2 O5.out.2.size (fun k hk => by subst hk; exact NE.out.2.2.1.1)
        have hB6 : Below w.heap.size w w6 := T6.below hB5 hB5.size (fun k hk => by subst hk; exact NE.out.2.2.2.1)
        have hgl := gone_length haK
        rw [← now_gone] at o7
        have hln : (nowL l (goneL K a)).length = K.length - 1 := by rw [now_length]; exact hgl
        rw [← hln] at o7
        have cw := cwst_any (nowL l (goneL K a)) (fun c hc => TL.out c (now_mem (fun x hx => KM.out.1 x (gone_mem hx)) c hc)) (by rw [hln]; omega) w6 (SlAt.own ndC_length17 o7) (fun b hb => hb.2)
        have O9 := Lib.hid (And.intro p6 (And.intro o7 hB6))
        have HL := Lib.hid (And.intro hgl hln)
        rw [hln] at cw
        clear cd2 o6 T5 T6 p6 hB5 hB6 hgl hln o7 O6 O5
        go_wp2_with fail
        (with_reducible refine cw.mono ?_)
        rintro e w7 ⟨rfl, hB7⟩
        obtain ⟨hgl, hln⟩ := HL.out
        have q6 := own_below17 O9.out.1 hB7
        have q7 := own_below17 O9.out.2.1 hB7
        have qB := O9.out.2.2.trans (hB7.mono O9.out.2.2.size)
        rw [hln] at q7
        have OX := Lib.hid (And.intro q6 (And.intro q7 qB))
        clear cw hgl hln q6 q7 qB hB7 O9
        go_wp2_with fail
        go_roundw
        case rel =>
          obtain ⟨hgl, hln⟩ := HL.out
          refine ⟨goneL K a, g6, c6, by rw [hgl]; omega, fun x hx => KM.out.1 x (gone_mem hx), ?_, by rw [hgl], rfl, rfl, ?_⟩
          · rw [hgl, HF.out, Nat.add_sub_cancel]
            exact HG.out
          · rw [hgl, hln]
            exact ⟨OX.out.1, OX.out.2.1, fun b hb => NE.out.1 b hb, OX.out.2.2⟩
        case measure =>
          simp only [slLenC]
          omega
end Go.Proofs.Ytefjdmbioclddaa.W
