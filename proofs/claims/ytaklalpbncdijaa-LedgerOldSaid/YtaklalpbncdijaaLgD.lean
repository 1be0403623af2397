/- The document's own answers of layer 7, walked: a correction. -/
import Derived.Test.YtaklalpbncdijaaLgC
namespace Go.Proofs.Ytaklalpbncdijaa.W
open Go.RowKit Go.Sort
set_option linter.unusedVariables false
set_option linter.unusedSimpArgs false
theorem flat_snoc (l : List En) (e : En) : l.flatMap enE ++ [.int .i64 e.at_, .int .i64 e.by_, .bool e.step] = (l ++ [e]).flatMap enE := by simp [enE]
set_option maxRecDepth 100000 in
set_option maxHeartbeats 12800000 in
theorem rcor_any {F : Nat → Prop} {p : Nat} {c : Ck} (ok : c.Ok) (raw b : Int) (st : Bool) (r0 : -9223372036854775808 ≤ raw) (r1 : raw ≤ 9223372036854775807) (w : World) (hc : RkIn F w p c) :
    Calls Try.prog 22 #[.pointer (some ⟨p, 0, none⟩), .int .i64 raw, .int .i64 b, .bool st] w fun e w' => e = .returned (.int .i64 (corE c raw b)) ∧ RkIn (Gr F w w') w' p (corS c raw b st) ∧ Touch F w w' := by
  have d := rtot_any ok raw r0 r1 w hc
  by_cases h : totE c raw = 0
  · by_cases h2 : b < -1125899906842624 ∨ 1125899906842624 < b
    · have e1 : corE c raw b = 1 := by unfold corE; rw [if_neg (by omega), if_pos h2]
      have e2 : corS c raw b st = c := by unfold corS; rw [e1]; rfl
      rw [e1, e2]
      rw [h] at d
      clear e1 e2 h
      generalize totV c raw = s at *
      have HC := Lib.hid hc
      clear hc ok
      rcases h2 with h2 | h2
      · go_enter Try.func22, Try.ntmps22
        go_wp2_with fail
        refine d.mono ?_
        rintro e w' ⟨rfl, hB⟩
        go_wp2_with fail
        go_ret
        exact ⟨rfl, (HC.out.below hB).mono (fun k hk => .inl hk) (gr_lt HC.out.lt hB.size), Touch.of_below F hB⟩
      · have h3 : ¬ b < -1125899906842624 := by omega
        go_enter Try.func22, Try.ntmps22
        go_wp2_with fail
        refine d.mono ?_
        rintro e w' ⟨rfl, hB⟩
        go_wp2_with fail
        go_ret
        exact ⟨rfl, (HC.out.below hB).mono (fun k hk => .inl hk) (gr_lt HC.out.lt hB.size), Touch.of_below F hB⟩
    · have h3 : ¬ b < -1125899906842624 := by omega
      have h4 : ¬ 1125899906842624 < b := by omega
      by_cases h5 : 1000 ≤ c.l.length
      · have e1 : corE c raw b = 2 := by unfold corE; rw [if_neg (by omega), if_neg h2, if_pos h5]
        have e2 : corS c raw b st = c := by unfold corS; rw [e1]; rfl
        rw [e1, e2]
        rw [h] at d
        clear e1 e2 h
        generalize totV c raw = s at *
        have HC := Lib.hid hc
        have h5i : (1000 : Int) ≤ (c.l.length : Int) := by omega
        clear hc ok
        go_enter Try.func22, Try.ntmps22
        go_wp2_with fail
        refine d.mono ?_
        rintro e w' ⟨rfl, hB⟩
        obtain ⟨hp, hF, v, hb, hs⟩ := HC.out.below hB
        obtain ⟨q0, q1, q2, q3, f0, f1, f2, f3⟩ := clock_cells hb
        obtain ⟨x, cp, rfl⟩ := hs.slice
        clear hb hs
        go_wp2_with fail
        go_ret
        exact ⟨rfl, (HC.out.below hB).mono (fun k hk => .inl hk) (gr_lt HC.out.lt hB.size), Touch.of_below F hB⟩
      · have e1 : corE c raw b = 0 := by unfold corE; rw [if_neg (by omega), if_neg h2, if_neg h5]
        have e2 : corS c raw b st = ⟨raw, addI (tot c raw) b, c.speed, c.l ++ [⟨raw, b, st⟩]⟩ := by unfold corS; rw [if_pos e1]
        rw [e1, e2]
        rw [rtot_zero h, h] at d
        clear e1 e2 h h2
        obtain ⟨t0, t1⟩ := tot_range c raw
        have y := radd_any (tot c raw) b (by omega) (by omega) (by omega) (by omega)
        generalize tot c raw = s at *
        generalize addI s b = u at *
        have HC := Lib.hid hc
        have h5i : ¬ (1000 : Int) ≤ (c.l.length : Int) := by omega
        obtain ⟨i0, hi0, hz0, hz1, hz2⟩ := info_parts info_En
        clear hc ok
        go_enter Try.func22, Try.ntmps22
        go_wp2_with fail
        refine d.mono ?_
        rintro e w' ⟨rfl, hB⟩
        obtain ⟨hp, hF, v, hb, hs⟩ := HC.out.below hB
        obtain ⟨q0, q1, q2, q3, f0, f1, f2, f3⟩ := clock_cells hb
        obtain ⟨x, cp, rfl⟩ := hs.slice
        go_wp2_with fail
        (with_reducible refine (y _).mono ?_)
        rintro e w'' ⟨rfl, rfl⟩
        go_upto_region 10 with fail
        have b1 := block_set 1 (.int .i64 u) hb
        have b2 := block_set 0 (.int .i64 raw) b1
        have tB : Touch F w w' := Touch.of_below F hB
        have tW := (tB.setCell (p := ⟨p, 1, none⟩) (.inl hp) (.int .i64 u)).setCell (p := ⟨p, 0, none⟩) (.inl hp) (.int .i64 raw)
        have s4 : SlAt (fun b => F b ∧ b ≠ p) 3 enE ((w'.setCell ⟨p, 1, none⟩ (.int .i64 u)).setCell ⟨p, 0, none⟩ (.int .i64 raw)) (.slice x c.l.length cp) c.l :=
          hs.kept (fun b hb => by rw [block_far _ _ hb.2, block_far _ _ hb.2])
        have hpl4 : p < ((w'.setCell ⟨p, 1, none⟩ (.int .i64 u)).setCell ⟨p, 0, none⟩ (.int .i64 raw)).heap.size := by rw [set_size, set_size]; exact hF p hp
        clear hb b1 q0 q1 q2 q3 f0 f1 f2 f3 hs tB hB
        generalize (w'.setCell ⟨p, 1, none⟩ (.int .i64 u)).setCell ⟨p, 0, none⟩ (.int .i64 raw) = w4 at *
        have z4 := tW.size
        have b2' : w4.heap[p]? = some (.cells #[.int .i64 raw, .int .i64 u, .int .i64 c.speed, .slice x c.l.length cp] 34 (0, 0)) := b2
        have own0 := ownsRow_fresh w4 62 3 w.heap.size z4
        have b5 : (w4.alloc (.cells #[] 62)).heap[p]? = some (.cells #[.int .i64 raw, .int .i64 u, .int .i64 c.speed, .slice x c.l.length cp] 34 (0, 0)) := (Below.heap_alloc _ _ _ hpl4).trans b2'
        have s5 := s4.kept (w' := w4.alloc (.cells #[] 62)) (fun b hb => Below.heap_alloc _ _ _ (Nat.lt_of_lt_of_le (HC.out.lt b hb.1) z4))
        have t5 := tW.alloc (.cells #[] 62)
        obtain ⟨_, _, _, r3, _, _, _, g3⟩ := clock_cells b5
        have c5 : c.l.length < 1000 := by omega
        have fin : ∀ (w6 : World) (v6 : Value), w6.ownsRow w.heap.size 62 3 v6 c.l.length (c.l.flatMap enE) → w6.heap[p]? = some (.cells #[.int .i64 raw, .int .i64 u, .int .i64 c.speed, .slice x c.l.length cp] 34 (0, 0)) → Touch F w w6 →
          ∀ (v7 : Value) (w7 : World), w7.ownsRow w.heap.size 62 3 v7 (c.l.length + 1) (c.l.flatMap enE ++ [.int .i64 raw, .int .i64 b, .bool st]) → (w6.alloc (.cells #[.int .i64 raw, .int .i64 b, .bool st] 62)).grownBy w7 v6.ownBlock →
          w7.heap[p]? = some (.cells #[.int .i64 raw, .int .i64 u, .int .i64 c.speed, .slice x c.l.length cp] 34 (0, 0)) ∧
          RkIn (Gr F w (w7.setCell ⟨p, 3, none⟩ v7)) (w7.setCell ⟨p, 3, none⟩ v7) p ⟨raw, u, c.speed, c.l ++ [⟨raw, b, st⟩]⟩ ∧ Touch F w (w7.setCell ⟨p, 3, none⟩ v7) := by
          intro w6 v6 o6 b6 t6 v7 w7 o7 g7
          have hpw : p < w.heap.size := HC.out.lt p hp
          have hne : some p ≠ v6.ownBlock := fun e => by
            have := (o6.lt p e.symm).1
            omega
          have p6 : p < w6.heap.size := Nat.lt_of_lt_of_le hpw t6.size
          have b7 : w7.heap[p]? = some (.cells #[.int .i64 raw, .int .i64 u, .int .i64 c.speed, .slice x c.l.length cp] 34 (0, 0)) :=
            (g7.block p (by rw [World.size_alloc]; omega) hne).trans ((Below.heap_alloc _ _ _ p6).trans b6)
          have t7 : Touch F w w7 := by
            have g : w6.grownBy w7 v6.ownBlock := (World.grownBy_alloc w6 _ _).trans g7
            refine t6.trans (G := fun k => some k = v6.ownBlock) ⟨g.os, g.tape, g.output, g.size, fun k hk hn => g.block k hk (fun e => hn e)⟩ (fun k e => .inr (o6.lt k e.symm).1)
          have t8 := t7.setCell (p := ⟨p, 3, none⟩) (.inl hp) v7
          have z8 := t8.size
          refine ⟨b7, ⟨.inl hp, gr_lt HC.out.lt z8, v7, block_set 3 v7 b7, ?_⟩, t8⟩
          rw [flat_snoc c.l ⟨raw, b, st⟩, show c.l.length + 1 = (c.l ++ [(⟨raw, b, st⟩ : En)]).length by simp] at o7
          refine ((SlAt.own enE_length o7).mono (fun k hk => ⟨.inr ⟨hk.1, by rw [set_size]; exact hk.2⟩, fun e => ?_⟩)).kept (fun k hk => block_far _ _ hk.2)
          have := hk.1
          omega
        clear tW b2 b2' hpl4 s4
        rcases s5.src enE_length with ⟨hx, hl0⟩ | ⟨ad, cap2, hx, hsrc⟩
        · obtain ⟨rfl, _, rfl⟩ := Value.slice.inj hx
          have hlen0 : c.l.length = 0 := by rw [hl0]; rfl
          have hf0 : c.l.flatMap enE = [] := by rw [hl0]; rfl
          rw [hlen0, hf0] at fin
          rw [hlen0] at r3 b5
          have nr := new_row3 (w4.alloc (.cells #[] 62)) (.int .i64 raw) (.int .i64 b) (.bool st) 62
          rw [World.size_alloc] at nr
          have NR := Lib.hid nr
          have FIN := Lib.hid fin
          clear fin hx hl0 s5 nr
          go_wp2_with (first | (at_builtin; refine wpList_append_own_none rfl _ _ 32 rfl w.heap.size 62 i0 3 Try.underlying32 hi0 _ 0 [] rfl own0 rfl ?_) | (at_builtin; refine wpList_append_own _ rfl _ _ 32 rfl w.heap.size 62 i0 _ 3 24 Try.underlying32 hi0 hz0 hz1 hz2 rfl (by decide) _ _ _ rfl (own0.alloc _) ⟨w4.heap.size + 1, 0, none⟩ 1 1 [.int .i64 raw, .int .i64 b, .bool st] rfl rfl NR.out (enE_one ⟨raw, b, st⟩) (by unfold maxLen; omega) (by omega) (by simp; omega) ?_; intro v7 w7 own7 g7 _; obtain ⟨gg, cc, rfl⟩ := ownsRow_succ7 own7; obtain ⟨B7, R7, T7⟩ := FIN.out _ _ own0 b5 t5 _ _ own7 g7; obtain ⟨_, _, _, h73, _, _, _, hf73⟩ := clock_cells B7))
          go_ret
          exact ⟨rfl, R7, T7⟩
        · obtain ⟨rfl, _, rfl⟩ := Value.slice.inj hx
          have mid : ∀ w6 : World, (w4.alloc (.cells #[] 62)).grownBy w6 (some w4.heap.size) → w6.heap[p]? = some (.cells #[.int .i64 raw, .int .i64 u, .int .i64 c.speed, .slice (some ad) c.l.length cp] 34 (0, 0)) ∧ Touch F w w6 := by
            intro w6 g6
            have hpw : p < w.heap.size := HC.out.lt p hp
            refine ⟨(g6.block p (by rw [World.size_alloc]; omega) (fun e => by cases e; omega)).trans b5, ?_⟩
            exact t5.trans (G := fun k => k = w4.heap.size) ⟨g6.os, g6.tape, g6.output, g6.size, fun k hk hn => g6.block k hk (fun e => hn (by cases e; rfl))⟩ (fun k e => .inr (by rw [e]; exact z4))
          have MID := Lib.hid mid
          have FIN := Lib.hid fin
          clear fin hx s5 mid
          go_wp2_with (first | (at_builtin; refine wpList_append_own _ rfl _ _ 32 rfl w.heap.size 62 i0 _ 3 24 Try.underlying32 hi0 hz0 hz1 hz2 rfl (by decide) _ _ _ rfl own0 ad c.l.length _ (c.l.flatMap enE) rfl (flat_length 3 enE enE_length c.l) hsrc (enE_all c.l) (by unfold maxLen; omega) (by omega) (by simp; omega) ?_; intro v6 w6 own6 g6 _; rw [Nat.zero_add, List.nil_append] at own6; have Z6 := g6.size; rw [World.size_alloc] at Z6; obtain ⟨B6, T6⟩ := MID.out w6 g6) | (at_builtin; refine wpList_append_own _ rfl _ _ 32 rfl w.heap.size 62 i0 _ 3 24 Try.underlying32 hi0 hz0 hz1 hz2 rfl (by decide) _ _ _ rfl (own6.alloc _) ⟨w6.heap.size, 0, none⟩ 1 1 [.int .i64 raw, .int .i64 b, .bool st] rfl rfl (new_row3 _ _ _ _ _) (enE_one ⟨raw, b, st⟩) (by unfold maxLen; omega) (by omega) (by simp; omega) ?_; intro v7 w7 own7 g7 _; obtain ⟨gg, cc, rfl⟩ := ownsRow_succ7 own7; obtain ⟨B7, R7, T7⟩ := FIN.out _ _ own6 B6 T6 _ _ own7 g7; obtain ⟨_, _, _, h73, _, _, _, hf73⟩ := clock_cells B7))
          go_ret
          exact ⟨rfl, R7, T7⟩
  · have e1 : corE c raw b = totE c raw := by unfold corE; rw [if_pos h]
    have e2 : corS c raw b st = c := by unfold corS; rw [e1, if_neg h]
    rw [e1, e2]
    clear e1 e2
    have HC := Lib.hid hc
    clear hc ok
    generalize totE c raw = x at *
    generalize totV c raw = s at *
    go_enter Try.func22, Try.ntmps22
    go_wp2_with fail
    refine d.mono ?_
    rintro e w' ⟨rfl, hB⟩
    go_wp2_with fail
    go_ret
    exact ⟨rfl, (HC.out.below hB).mono (fun k hk => .inl hk) (gr_lt HC.out.lt hB.size), Touch.of_below F hB⟩
end Go.Proofs.Ytaklalpbncdijaa.W
