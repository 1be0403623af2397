/- The code's own clock, walked: rates and corrections. -/
import Derived.Test.YtaklalpbncdijaaLgW
import Derived.Test.YtaklalpbncdijaaFixG
import Derived.RegionTactic
namespace Go.Proofs.Ytaklalpbncdijaa.W
open Go.RowKit Go.Sort
set_option linter.unusedVariables false
set_option linter.unusedSimpArgs false
theorem within_no (r m : Int) (h : r < -m ∨ m < r) : decide (-m ≤ r ∧ r ≤ m) = false := decide_eq_false (by omega)
theorem within_yes (r m : Int) (h : ¬ (r < -m ∨ m < r)) : decide (-m ≤ r ∧ r ≤ m) = true := decide_eq_true (by omega)
theorem keep2 {w : World} {a b : Addr} {u v : Value} (o : Obj) (h : w.cell? a = some u ∧ w.cell? b = some v) : (w.alloc o).cell? a = some u ∧ (w.alloc o).cell? b = some v :=
  ⟨(((Below.refl w.heap.size w).alloc (Nat.le_refl _) o).cell (block_lt_of_cell h.1)).trans h.1, (((Below.refl w.heap.size w).alloc (Nat.le_refl _) o).cell (block_lt_of_cell h.2)).trans h.2⟩
set_option maxHeartbeats 6400000 in
theorem crate_any {F : Nat → Prop} {p : Nat} {c : Ck} (ok : c.Ok) (raw r : Int) (r0 : -9223372036854775808 ≤ raw) (r1 : raw ≤ 9223372036854775807) (b0 : -9223372036854775808 ≤ r) (b1 : r ≤ 9223372036854775807) (w : World) (hc : CkIn F w p c) :
    Calls Try.prog 20 #[.pointer (some ⟨p, 0, none⟩), .int .i64 raw, .int .i64 r] w fun e w' => e = .returned (.int .i64 (ratE c raw r)) ∧ CkIn (Gr F w w') w' p (ratS c raw r) ∧ Touch F w w' := by
  have d := ctot_any ok raw r0 r1 w hc
  have y := cwithin_any r 2147483648 b0 b1 (by omega) (by omega)
  by_cases h : totE c raw = 0
  · by_cases h2 : r < -2147483648 ∨ 2147483648 < r
    · have e1 : ratE c raw r = 1 := by unfold ratE; rw [if_neg (by omega), if_pos h2]
      have e2 : ratS c raw r = c := by unfold ratS; rw [e1]; rfl
      rw [e1, e2]
      rw [h] at d
      rw [within_no r 2147483648 h2] at y
      clear e1 e2 h h2
      generalize totV c raw = s at *
      have HC := Lib.hid hc
      clear hc ok
      go_enter Try.func20, Try.ntmps20
      go_wp2_with fail
      (with_reducible refine d.mono ?_)
      rintro e w' ⟨rfl, hB⟩
      go_wp2_with fail
      (with_reducible refine (y _).mono ?_)
      rintro e w'' ⟨rfl, rfl⟩
      go_wp2_with fail
      go_ret
      exact ⟨rfl, (HC.out.below hB).mono (fun k hk => .inl hk) (gr_lt HC.out.lt hB.size), Touch.of_below F hB⟩
    · have e1 : ratE c raw r = 0 := by unfold ratE; rw [if_neg (by omega), if_neg h2]
      have e2 : ratS c raw r = ⟨raw, tot c raw, r, c.l⟩ := by unfold ratS; rw [if_pos e1]
      rw [e1, e2]
      rw [rtot_zero h, h] at d
      rw [within_yes r 2147483648 h2] at y
      clear e1 e2 h h2
      generalize tot c raw = s at *
      have HC := Lib.hid hc
      clear hc ok
      go_enter Try.func20, Try.ntmps20
      go_wp2_with fail
      (with_reducible refine d.mono ?_)
      rintro e w' ⟨rfl, hB⟩
      go_wp2_with fail
      (with_reducible refine (y _).mono ?_)
      rintro e w'' ⟨rfl, rfl⟩
      obtain ⟨hp, hF, v, hb, hs⟩ := HC.out.below hB
      obtain ⟨q0, q1, q2, q3, f0, f1, f2, f3⟩ := clock_cells hb
      go_wp2_with fail
      go_ret
      have b1 := block_set 0 (.int .i64 raw) hb
      have b2 := block_set 1 (.int .i64 s) b1
      have b3 := block_set 2 (.int .i64 r) b2
      have tB : Touch F w w' := Touch.of_below F hB
      refine ⟨rfl, ⟨.inl hp, gr_lt HC.out.lt (by rw [set_size, set_size, set_size]; exact hB.size), v, b3, ?_⟩, ((tB.setCell (.inl hp) _).setCell (.inl hp) _).setCell (.inl hp) _⟩
      exact (hs.mono (fun b hb => ⟨.inl hb.1, hb.2⟩)).kept (fun b hb => by rw [block_far _ _ hb.2, block_far _ _ hb.2, block_far _ _ hb.2])
  · have e1 : ratE c raw r = totE c raw := by unfold ratE; rw [if_pos h]
    have e2 : ratS c raw r = c := by unfold ratS; rw [e1, if_neg h]
    rw [e1, e2]
    clear e1 e2
    have HC := Lib.hid hc
    clear hc ok
    generalize totE c raw = x at *
    generalize totV c raw = s at *
    go_enter Try.func20, Try.ntmps20
    go_wp2_with fail
    (with_reducible refine d.mono ?_)
    rintro e w' ⟨rfl, hB⟩
    go_wp2_with fail
    go_ret
    exact ⟨rfl, (HC.out.below hB).mono (fun k hk => .inl hk) (gr_lt HC.out.lt hB.size), Touch.of_below F hB⟩
set_option maxRecDepth 100000 in
set_option maxHeartbeats 12800000 in
theorem ccor_any {F : Nat → Prop} {p : Nat} {c : Ck} (ok : c.Ok) (raw b : Int) (st : Bool) (r0 : -9223372036854775808 ≤ raw) (r1 : raw ≤ 9223372036854775807) (b0 : -9223372036854775808 ≤ b) (b1 : b ≤ 9223372036854775807) (w : World) (hc : CkIn F w p c) :
    Calls Try.prog 18 #[.pointer (some ⟨p, 0, none⟩), .int .i64 raw, .int .i64 b, .bool st] w fun e w' => e = .returned (.int .i64 (corE c raw b)) ∧ CkIn (Gr F w w') w' p (corS c raw b st) ∧ Touch F w w' := by
  obtain ⟨t0, t1⟩ := tot_range c raw
  have hB0 : Below w.heap.size w (w.alloc (.cells #[.int .i64 b] 2)) := (Below.refl _ _).alloc (Nat.le_refl _) _
  have q : (w.alloc (.cells #[.int .i64 b] 2)).cell? ⟨w.heap.size, 0, none⟩ = some (.int .i64 b) := by simp [go_sem]
  have lq : w.heap.size < (w.alloc (.cells #[.int .i64 b] 2)).heap.size := block_lt_of_cell q
  have d := cmade_any ok raw r0 r1 _ (hc.below hB0) 33 #[.pointer (some ⟨w.heap.size, 0, none⟩)] (fun s => addI s b) goes_correct
    (fun w' hB => made_correct _ b w.heap.size (by omega) (by omega) b0 b1 w' ((hB.cell (block_lt_of_cell q)).trans q))
  have y := cwithin_any b 1125899906842624 b0 b1 (by omega) (by omega)
  by_cases h : totE c raw = 0
  · by_cases h2 : b < -1125899906842624 ∨ 1125899906842624 < b
    · have e1 : corE c raw b = 1 := by unfold corE; rw [if_neg (by omega), if_pos h2]
      have e2 : corS c raw b st = c := by unfold corS; rw [e1]; rfl
      rw [e1, e2]
      rw [if_pos h, h] at d
      rw [within_no b 1125899906842624 h2] at y
      clear e1 e2 h h2
      generalize tot c raw = s at *
      generalize addI s b = u at *
      have HC := Lib.hid hc
      clear hc ok t0 t1
      go_enter Try.func18, Try.ntmps18
      go_wp2_with fail
      (with_reducible refine d.mono ?_)
      rintro e w' ⟨rfl, hB⟩
      have q' := ((bcell hB).1 _ 0 lq).trans q
      replace hB := hB0.trans (hB.mono hB0.size)
      have lq' := block_lt_of_cell q'
      clear q d
      go_wp2_with fail
      (with_reducible refine (y _).mono ?_)
      rintro e w'' ⟨rfl, rfl⟩
      go_wp2_with fail
      go_ret
      exact ⟨rfl, (HC.out.below hB).mono (fun k hk => .inl hk) (gr_lt HC.out.lt hB.size), Touch.of_below F hB⟩
    · by_cases h5 : 1000 ≤ c.l.length
      · have e1 : corE c raw b = 2 := by unfold corE; rw [if_neg (by omega), if_neg h2, if_pos h5]
        have e2 : corS c raw b st = c := by unfold corS; rw [e1]; rfl
        rw [e1, e2]
        rw [if_pos h, h] at d
        rw [within_yes b 1125899906842624 h2] at y
        clear e1 e2 h h2
        generalize tot c raw = s at *
        generalize addI s b = u at *
        have HC := Lib.hid hc
        have h5i : (1000 : Int) ≤ (c.l.length : Int) := by omega
        clear hc ok t0 t1
        go_enter Try.func18, Try.ntmps18
        go_wp2_with fail
        (with_reducible refine d.mono ?_)
        rintro e w' ⟨rfl, hB⟩
        have q' := ((bcell hB).1 _ 0 lq).trans q
        replace hB := hB0.trans (hB.mono hB0.size)
        have lq' := block_lt_of_cell q'
        clear q d
        obtain ⟨hp, hF, v, hb, hs⟩ := HC.out.below hB
        obtain ⟨x0, x1, x2, x3, f0, f1, f2, f3⟩ := clock_cells hb
        obtain ⟨x, cp, rfl⟩ := hs.slice
        clear hb hs
        go_wp2_with fail
        (with_reducible refine (y _).mono ?_)
        rintro e w'' ⟨rfl, rfl⟩
        go_wp2_with fail
        go_ret
        exact ⟨rfl, (HC.out.below hB).mono (fun k hk => .inl hk) (gr_lt HC.out.lt hB.size), Touch.of_below F hB⟩
      · have e1 : corE c raw b = 0 := by unfold corE; rw [if_neg (by omega), if_neg h2, if_neg h5]
        have e2 : corS c raw b st = ⟨raw, addI (tot c raw) b, c.speed, c.l ++ [⟨raw, b, st⟩]⟩ := by unfold corS; rw [if_pos e1]
        rw [e1, e2]
        rw [if_pos h, h] at d
        rw [within_yes b 1125899906842624 h2] at y
        clear e1 e2 h h2
        generalize tot c raw = s at *
        generalize addI s b = u at *
        have HC := Lib.hid hc
        have h5i : ¬ (1000 : Int) ≤ (c.l.length : Int) := by omega
        clear hc ok t0 t1
        go_enter Try.func18, Try.ntmps18
        go_wp2_with fail
        (with_reducible refine d.mono ?_)
        rintro e w' ⟨rfl, hB⟩
        have q' := ((bcell hB).1 _ 0 lq).trans q
        replace hB := hB0.trans (hB.mono hB0.size)
        have lq' := block_lt_of_cell q'
        clear q d
        obtain ⟨hp, hF, v, hb, hs⟩ := HC.out.below hB
        obtain ⟨x0, x1, x2, x3, f0, f1, f2, f3⟩ := clock_cells hb
        obtain ⟨x, cp, rfl⟩ := hs.slice
        have hne : w.heap.size ≠ p := fun e => by have := HC.out.lt p HC.out.1; omega
        go_wp2_with fail
        (with_reducible refine (y _).mono ?_)
        rintro e w'' ⟨rfl, rfl⟩
        go_upto_region 9 with fail
        have bA := block_set 0 (.int .i64 raw) hb
        have bB := block_set 1 (.int .i64 u) bA
        have bC := block_set 2 (.int .i64 c.speed) bB
        have tB : Touch F w w' := Touch.of_below F hB
        have tW := ((tB.setCell (p := ⟨p, 0, none⟩) (.inl hp) (.int .i64 raw)).setCell (p := ⟨p, 1, none⟩) (.inl hp) (.int .i64 u)).setCell (p := ⟨p, 2, none⟩) (.inl hp) (.int .i64 c.speed)
        have s4 : SlAt (fun b => F b ∧ b ≠ p) 3 enE (((w'.setCell ⟨p, 0, none⟩ (.int .i64 raw)).setCell ⟨p, 1, none⟩ (.int .i64 u)).setCell ⟨p, 2, none⟩ (.int .i64 c.speed)) (.slice x c.l.length cp) c.l :=
          hs.kept (fun b hb => by rw [block_far _ _ hb.2, block_far _ _ hb.2, block_far _ _ hb.2])
        have q4 : (((w'.setCell ⟨p, 0, none⟩ (.int .i64 raw)).setCell ⟨p, 1, none⟩ (.int .i64 u)).setCell ⟨p, 2, none⟩ (.int .i64 c.speed)).cell? ⟨w.heap.size, 0, none⟩ = some (.int .i64 b) :=
          (cell_same (by rw [block_far _ _ hne, block_far _ _ hne, block_far _ _ hne]) 0).trans q'
        have lt4 : ∀ k, F k → k < (((w'.setCell ⟨p, 0, none⟩ (.int .i64 raw)).setCell ⟨p, 1, none⟩ (.int .i64 u)).setCell ⟨p, 2, none⟩ (.int .i64 c.speed)).heap.size := fun k hk => by rw [set_size, set_size, set_size]; exact hF k hk
        clear hb bA bB x0 x1 x2 x3 f0 f1 f2 f3 hs tB hB q' lq' hF
        generalize ((w'.setCell ⟨p, 0, none⟩ (.int .i64 raw)).setCell ⟨p, 1, none⟩ (.int .i64 u)).setCell ⟨p, 2, none⟩ (.int .i64 c.speed) = w4 at *
        have b4 : w4.heap[p]? = some (.cells #[.int .i64 raw, .int .i64 u, .int .i64 c.speed, .slice x c.l.length cp] 57 (0, 0)) := bC
        have lq4 := block_lt_of_cell q4
        have hpl4 := lt4 p hp
        obtain ⟨x0, x1, x2, x3, f0, f1, f2, f3⟩ := clock_cells b4
        have z4 := tW.size
        clear bC x0 x1 x2 f0 f1 f2
        obtain ⟨W, hW⟩ : ∃ W, W = ((w4.alloc (.cells #[.int .i64 raw, .int .i64 b, .bool st] 63)).alloc (.cells #[.slice x c.l.length cp, .slice (some ⟨w4.heap.size, 0, none⟩) 1 1] 40)).drew := ⟨_, rfl⟩
        have hWB : Below w4.heap.size w4 W := by rw [hW]; exact (((Below.refl _ _).alloc (Nat.le_refl _) _).alloc (by rw [World.size_alloc]; omega) _).drew
        have hWs : W.heap.size = w4.heap.size + 1 + 1 := by rw [hW]; show ((w4.alloc _).alloc _).heap.size = _; rw [World.size_alloc, World.size_alloc]
        have hW1 : W.heap[w4.heap.size]? = some (.cells #[.int .i64 raw, .int .i64 b, .bool st] 63 (0, 0)) := by
          rw [hW]
          exact (Below.heap_alloc _ _ _ (by rw [World.size_alloc]; omega)).trans (heap_alloc_new _ _)
        have hW2 : W.heap[w4.heap.size + 1]? = some (.cells #[.slice x c.l.length cp, .slice (some ⟨w4.heap.size, 0, none⟩) 1 1] 40 (0, 0)) := by
          rw [hW]
          exact heap_alloc_new' _ _ (by rw [World.size_alloc])
        have d9 := cconcat_any c.l ⟨raw, b, st⟩ (by omega) (.slice x c.l.length cp) w4.heap.size (w4.heap.size + 1) W (s4.kept (fun k hk => hWB.block k (lt4 k hk.1))) (fun k hk => by have := lt4 k hk.1; omega)
          (fun j u hu => by
            rw [Addr.add_lit, Nat.zero_add]
            match j, hu with
            | 0, hu => simp [enE] at hu; subst hu; simp [World.cell?, hW1]
            | 1, hu => simp [enE] at hu; subst hu; simp [World.cell?, hW1]
            | 2, hu => simp [enE] at hu; subst hu; simp [World.cell?, hW1])
          (by omega) (cell_of_two hW2).1 (cell_of_two hW2).2 (by omega)
        have fin : ∀ (w9 : World) (v9 : Value), SlAt (fun k => W.heap.size ≤ k ∧ k < w9.heap.size) 3 enE w9 v9 (c.l ++ [⟨raw, b, st⟩]) → Below W.heap.size W w9 →
            (w9.cell? ⟨p, 3, none⟩ = some (.slice x c.l.length cp) ∧ w9.cell? ⟨w.heap.size, 0, none⟩ = some (.int .i64 b)) ∧ w9.frozen? ⟨p, 3, none⟩ = false ∧ p < w9.heap.size ∧
            CkIn (Gr F w (w9.setCell ⟨p, 3, none⟩ v9)) (w9.setCell ⟨p, 3, none⟩ v9) p ⟨raw, u, c.speed, c.l ++ [⟨raw, b, st⟩]⟩ ∧ Touch F w (w9.setCell ⟨p, 3, none⟩ v9) := by
          intro w9 v9 h9 B9
          have B49 : Below w4.heap.size w4 w9 := hWB.trans (B9.mono (by omega))
          have b9 := (B49.block p hpl4).trans b4
          obtain ⟨_, _, _, y3, _, _, _, g3⟩ := clock_cells b9
          have t9 : Touch F w w9 := tW.trans (Touch.of_below (fun _ => False) B49) (fun _ h => h.elim)
          have t10 := t9.setCell (p := ⟨p, 3, none⟩) (.inl hp) v9
          have z10 := t10.size
          have z9 := B49.size
          refine ⟨⟨y3, ((bcell B49).1 _ 0 lq4).trans q4⟩, g3, by omega, ⟨.inl hp, gr_lt HC.out.lt z10, v9, block_set 3 v9 b9, ?_⟩, t10⟩
          refine (h9.mono (fun k hk => ⟨.inr ⟨by omega, by rw [set_size]; exact hk.2⟩, fun e => ?_⟩)).kept (fun k hk => block_far _ _ hk.2)
          have := hk.1
          omega
        have FIN := Lib.hid fin
        rw [hW] at d9
        clear hWB hWs hW1 hW2 fin s4 tW lt4 b4
        go_region_with (go_at_call 35; refine d9.mono ?_; rintro e w9 ⟨v9, rfl, hs9, hB9⟩; rw [← hW] at hs9 hB9; obtain ⟨S9, f9, p9, C9, T9⟩ := FIN.out w9 v9 hs9 hB9; obtain ⟨x9, c9, rfl⟩ := hs9.slice; rw [List.length_append, List.length_singleton] at C9 T9; clear hs9 hB9)
        all_goals (go_wp2_with fail; go_ret; exact ⟨rfl, C9, T9⟩)
  · have e1 : corE c raw b = totE c raw := by unfold corE; rw [if_pos h]
    have e2 : corS c raw b st = c := by unfold corS; rw [e1, if_neg h]
    rw [e1, e2]
    rw [if_neg h] at d
    clear e1 e2 y
    have HC := Lib.hid hc
    clear hc ok t0 t1
    generalize totE c raw = x at *
    generalize tot c raw = s at *
    go_enter Try.func18, Try.ntmps18
    go_wp2_with fail
    (with_reducible refine d.mono ?_)
    rintro e w' ⟨rfl, hB⟩
    have q' := ((bcell hB).1 _ 0 lq).trans q
    replace hB := hB0.trans (hB.mono hB0.size)
    clear q d
    go_wp2_with fail
    go_ret
    exact ⟨rfl, (HC.out.below hB).mono (fun k hk => .inl hk) (gr_lt HC.out.lt hB.size), Touch.of_below F hB⟩
end Go.Proofs.Ytaklalpbncdijaa.W
