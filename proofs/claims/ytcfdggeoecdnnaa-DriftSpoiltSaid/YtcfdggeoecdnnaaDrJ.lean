/- Layer 9's own code, walked: what is loaded; a Save. -/
import Derived.Test.YtcfdggeoecdnnaaDrI
import Derived.Deep.DeepCutAuto
namespace Go.Proofs.Ytcfdggeoecdnnaa.W
open Go.RowKit Go.Sort
set_option linter.unusedVariables false
set_option linter.unusedSimpArgs false
theorem slA_range {s : List UInt8} (hs : s.length = 32) : 0 ≤ (slA s).seq ∧ (slA s).seq < 4294967296 := by
  have := sl_range (s.take 16) (by rw [List.length_take]; omega)
  exact ⟨this.1, this.2.1⟩
theorem slB_range {s : List UInt8} (hs : s.length = 32) : 0 ≤ (slB s).seq ∧ (slB s).seq < 4294967296 := by
  have := sl_range ((s.drop 16).take 16) (by rw [List.length_take, List.length_drop]; omega)
  exact ⟨this.1, this.2.1⟩
set_option maxHeartbeats 6400000 in
theorem kload_any {F : Nat → Prop} {p : Nat} {d : Dk} (ok : d.Ok) (w : World) (h : DkIn F w p d) :
    Calls Try.prog 10 #[.pointer (some ⟨p, 0, none⟩)] w fun e w' => e = .returned (.tuple #[.int .i64 (loadV d.s), .bool (loadB d.s)]) ∧ Below w.heap.size w w' := by
  have sl := kslots_w ok w h
  have nw := newest_any (slA d.s) (slB d.s) (slA_range ok.s) (slB_range ok.s)
  have hc := new_cases (slA d.s) (slB d.s)
  have hv : loadV d.s = if newest (slA d.s) (slB d.s) = 1 then (slB d.s).freq else (slA d.s).freq := by
    unfold loadV
    rcases hc with e | e | e
    · rw [e]; rfl
    · rw [e]; rfl
    · rw [e, if_neg (by decide), if_neg (by decide), if_neg (by decide)]
      have := sl_none (new_none e).1
      unfold slA
      unfold slA at this
      rw [this]
  have hb : loadB d.s = decide (0 ≤ newest (slA d.s) (slB d.s)) := rfl
  rw [hv, hb]
  clear hv hb
  generalize slA d.s = A at *
  generalize slB d.s = B at *
  unfold newP at nw
  generalize decide (0 ≤ newest A B) = nb at *
  obtain ⟨xw, xq, xf⟩ := A
  obtain ⟨yw, yq, yf⟩ := B
  unfold slV2 at sl nw
  simp only [] at sl nw
  by_cases hn : newest ⟨xw, xq, xf⟩ ⟨yw, yq, yf⟩ = 1
  · rw [if_pos hn] at nw
    rw [if_pos hn]
    clear hn hc
    simp only []
    go_enter Try.func10, Try.ntmps10
    go_wp2_with fail
    (with_reducible refine sl.mono ?_)
    rintro e w1 ⟨rfl, b1⟩
    have h2 := heap_alloc_new w1 (.cells #[.bool xw, .int .u32 xq, .int .i64 xf, .bool yw, .int .u32 yq, .int .i64 yf] 36)
    have b2 := b1.trans ((below_one' w1 (.cells #[.bool xw, .int .u32 xq, .int .i64 xf, .bool yw, .int .u32 yq, .int .i64 yf] 36)).mono b1.size)
    go_wp2_with fail
    generalize w1.alloc (.cells #[.bool xw, .int .u32 xq, .int .i64 xf, .bool yw, .int .u32 yq, .int .i64 yf] 36) = w2 at *
    (with_reducible refine (nw _).mono ?_)
    rintro e w3 ⟨rfl, b3⟩
    have h3 := kept_block h2 b3
    have b4 := b2.trans (b3.mono b2.size)
    obtain ⟨c0, c1, c2, c3, c4, c5⟩ := six_cells h3
    clear h2 h3 b1 b2 b3 nw sl
    go_wp2_with fail
    go_ret2
    exact ⟨rfl, b4⟩
  · rw [if_neg hn] at nw
    rw [if_neg hn]
    clear hn hc
    simp only []
    go_enter Try.func10, Try.ntmps10
    go_wp2_with fail
    (with_reducible refine sl.mono ?_)
    rintro e w1 ⟨rfl, b1⟩
    have h2 := heap_alloc_new w1 (.cells #[.bool xw, .int .u32 xq, .int .i64 xf, .bool yw, .int .u32 yq, .int .i64 yf] 36)
    have b2 := b1.trans ((below_one' w1 (.cells #[.bool xw, .int .u32 xq, .int .i64 xf, .bool yw, .int .u32 yq, .int .i64 yf] 36)).mono b1.size)
    go_wp2_with fail
    generalize w1.alloc (.cells #[.bool xw, .int .u32 xq, .int .i64 xf, .bool yw, .int .u32 yq, .int .i64 yf] 36) = w2 at *
    (with_reducible refine (nw _).mono ?_)
    rintro e w3 ⟨rfl, b3⟩
    have h3 := kept_block h2 b3
    have b4 := b2.trans (b3.mono b2.size)
    obtain ⟨c0, c1, c2, c3, c4, c5⟩ := six_cells h3
    clear h2 h3 b1 b2 b3 nw sl
    go_wp2_with fail
    go_ret2
    exact ⟨rfl, b4⟩
theorem info_step : (Try.prog.info? 49).map (·.size) = some 2 := by kernel_rfl
theorem step_at (a b c d e f : Value) (w : World) :
    (Instr.index 50 (.agg #[a, b, c, d, e, f]) (.int .i64 0)).run Try.prog w = .ok (.agg #[a, b]) w ∧ (Instr.index 50 (.agg #[a, b, c, d, e, f]) (.int .i64 1)).run Try.prog w = .ok (.agg #[c, d]) w ∧ (Instr.index 50 (.agg #[a, b, c, d, e, f]) (.int .i64 2)).run Try.prog w = .ok (.agg #[e, f]) w := by
  have hs := info_step
  cases hq : Try.prog.info? 49 with
  | none => simp [hq] at hs
  | some i =>
    have hi : i.size = 2 := by simpa [hq] using hs
    refine ⟨?_, ?_, ?_⟩ <;> simp [Instr.index, run_underlying Try.underlying50, run_underlying Try.underlying49, asIntOf, part, isAgg, sizeOf, typeInfo, hq, hi, go_sem]
theorem saveW_three (at_ : Nat) (P : List UInt8) : saveW at_ P = wsFrom at_ [0] ++ (wsFrom (at_ + 1) (P.drop 1) ++ wsFrom at_ [1]) := rfl
theorem three_first {d : Dk} {a b c : List (Nat × UInt8)} (h : wE d a ≠ 0) : wE d (a ++ (b ++ c)) = wE d a ∧ wW d (a ++ (b ++ c)) = wW d a := by
  obtain ⟨h1, h2, h3⟩ := wW_stop (b ++ c) h
  exact ⟨by rw [h3, h1], h2⟩
theorem three_first_two {d : Dk} {a b : List (Nat × UInt8)} (h : wE d a ≠ 0) : wE d (a ++ b) = wE d a ∧ wW d (a ++ b) = wW d a := by
  obtain ⟨h1, h2, h3⟩ := wW_stop b h
  exact ⟨by rw [h3, h1], h2⟩
theorem three_second {d : Dk} {a b c : List (Nat × UInt8)} (h : wE d a = 0) (g : wE (wW d a) b ≠ 0) : wE d (a ++ (b ++ c)) = wE (wW d a) b ∧ wW d (a ++ (b ++ c)) = wW (wW d a) b := by
  obtain ⟨h1, h2⟩ := wW_go (b ++ c) h
  rw [← h1, ← h2]
  exact three_first_two g
theorem three_last {d : Dk} {a b c : List (Nat × UInt8)} (h : wE d a = 0) (g : wE (wW d a) b = 0) : wE d (a ++ (b ++ c)) = wE (wW (wW d a) b) c ∧ wW d (a ++ (b ++ c)) = wW (wW (wW d a) b) c := by
  obtain ⟨h1, h2⟩ := wW_go (b ++ c) h
  obtain ⟨g1, g2⟩ := wW_go c g
  exact ⟨by rw [← h2, ← g2], by rw [← h1, ← g1]⟩
theorem DkIn.back {F G : Nat → Prop} {w : World} {p : Nat} {d : Dk} (h : DkIn G w p d) (hp : F p) (hF : ∀ k, F k → k < w.heap.size) : DkIn F w p d := ⟨hp, hF, h.2.2⟩
set_option maxHeartbeats 6400000 in
theorem ksave_any {F : Nat → Prop} {p : Nat} {d : Dk} (ok : d.Ok) (f : Int) (f0 : -9223372036854775808 ≤ f) (f1 : f ≤ 9223372036854775807) (w : World) (h : DkIn F w p d) :
    Calls Try.prog 9 #[.pointer (some ⟨p, 0, none⟩), .int .i64 f] w fun e w' => e = .returned (.int .i64 (savE d)) ∧ DkIn (Gr F w w') w' p (savD d f) ∧ Touch F w w' := by
  have sl := kslots_w ok w h
  have nx := next_any (slA d.s) (slB d.s) (slA_range ok.s) (slB_range ok.s)
  have e1 : target d.s = tgt (slA d.s) (slB d.s) := rfl
  have e2 : nextSeq d.s = nxq (slA d.s) (slB d.s) := rfl
  obtain ⟨q0, q1⟩ := nextSeq_range d.s
  have pk := pack_any (nextSeq d.s) f q0 q1 f0 f1
  have hP : (packS d.s f).length = 16 := pack_length _ _
  have ht := target_cases d.s
  obtain ⟨x1, x2⟩ := sav_is ok f
  rw [x1, x2]
  change ∀ w, Calls _ _ _ w fun e w' => e = .returned (.string (bs (packS d.s f))) ∧ _ at pk
  rw [e2] at pk
  rw [e1] at ht ⊢
  clear x1 x2 e1 e2
  obtain ⟨h1, h2, h3⟩ := h
  have hD : DkIn F w p d := ⟨h1, h2, h3⟩
  clear h3
  generalize nxq (slA d.s) (slB d.s) = nq at *
  generalize tgt (slA d.s) (slB d.s) = at_ at *
  have hP0 : (packS d.s f).take 1 = [1] := rfl
  generalize packS d.s f = P at *
  generalize slV2 (slA d.s) (slB d.s) = V at *
  have s1 : ∀ w, (Instr.slice 9 (.string (bs P)) (some (.int .i64 1)) none none).run Try.prog w = .ok (.string (bs (P.drop 1))) w := slice_from P 1 (by omega)
  have s2 : ∀ w, (Instr.slice 9 (.string (bs P)) none (some (.int .i64 1)) none).run Try.prog w = .ok (.string (bs [1])) w := by
    rw [← hP0]
    exact slice_to P 1 (by omega)
  rw [saveW_three]
  have hR : (P.drop 1).length = 15 := by rw [List.length_drop]; omega
  generalize P.drop 1 = R at *
  have k1 := fun w' (h : DkIn F w' p d) => write_any ok at_ [0] (by simp; omega) w' h
  have ok1 := wW_ok ok (wsFrom at_ [0])
  have k2 := fun w' (h : DkIn F w' p (wW d (wsFrom at_ [0]))) => write_any ok1 (at_ + 1) R (by omega) w' h
  have ok2 := wW_ok ok1 (wsFrom (at_ + 1) R)
  have k3 := fun w' (h : DkIn F w' p (wW (wW d (wsFrom at_ [0])) (wsFrom (at_ + 1) R))) => write_any ok2 at_ [1] (by simp; omega) w' h
  rw [show ((at_ + 1 : Nat) : Int) = (at_ : Int) + 1 by omega] at k2
  rw [show bs [0] = { data := #[0] } from rfl] at k1
  -- WALK
  by_cases z1 : wE d (wsFrom at_ [0]) = 0
  · by_cases z2 : wE (wW d (wsFrom at_ [0])) (wsFrom (at_ + 1) R) = 0
    · obtain ⟨g1, g2⟩ := three_last (c := wsFrom at_ [1]) z1 z2
      rw [g1, g2]
      rw [z1] at k1
      rw [z2] at k2
      clear g1 g2 z1 z2 ok1 ok2
      generalize hE : wE (wW (wW d (wsFrom at_ [0])) (wsFrom (at_ + 1) R)) (wsFrom at_ [1]) = E at *
      generalize wW (wW (wW d (wsFrom at_ [0])) (wsFrom (at_ + 1) R)) (wsFrom at_ [1]) = D3 at *
      clear hE
      generalize wW (wW d (wsFrom at_ [0])) (wsFrom (at_ + 1) R) = D2 at *
      generalize wW d (wsFrom at_ [0]) = D1 at *
      by_cases z3 : E = 0
      · subst z3
        have i0 := fun w => (step_at (.int .i64 at_) (.string { data := #[0] }) (.int .i64 ((at_ : Int) + 1)) (.string (bs R)) (.int .i64 at_) (.string (bs [1])) w).1
        have i1 := fun w => (step_at (.int .i64 at_) (.string { data := #[0] }) (.int .i64 ((at_ : Int) + 1)) (.string (bs R)) (.int .i64 at_) (.string (bs [1])) w).2.1
        have i2 := fun w => (step_at (.int .i64 at_) (.string { data := #[0] }) (.int .i64 ((at_ : Int) + 1)) (.string (bs R)) (.int .i64 at_) (.string (bs [1])) w).2.2
        go_enter Try.func9, Try.ntmps9
        go_wp2_with fail
        (with_reducible refine sl.mono ?_)
        rintro e w1 ⟨rfl, b1⟩
        go_wp2_with fail
        (with_reducible refine (nx _).mono ?_)
        rintro e w2 ⟨rfl, b2⟩
        go_wp2_with fail
        (with_reducible refine (pk _).mono ?_)
        rintro e w3 ⟨rfl, b3⟩
        have b3' := (b1.trans (b2.mono b1.size)).trans (b3.mono (b1.trans (b2.mono b1.size)).size)
        clear b1 b2 b3 sl nx pk
        go_wp2_with fail
        go_region
        have B4 := b3'.trans ((below_one' w3 (.cells #[.int .i64 at_, .string { data := #[0] }, .int .i64 ((at_ : Int) + 1), .string (bs R), .int .i64 at_, .string (bs [1])] 50)).drew.mono b3'.size)
        have h4 : (w3.alloc (.cells #[.int .i64 at_, .string { data := #[0] }, .int .i64 ((at_ : Int) + 1), .string (bs R), .int .i64 at_, .string (bs [1])] 50)).drew.heap[w3.heap.size]? = _ := heap_alloc_new w3 (.cells #[.int .i64 at_, .string { data := #[0] }, .int .i64 ((at_ : Int) + 1), .string (bs R), .int .i64 at_, .string (bs [1])] 50)
        clear b3'
        generalize (w3.alloc (.cells #[.int .i64 at_, .string { data := #[0] }, .int .i64 ((at_ : Int) + 1), .string (bs R), .int .i64 at_, .string (bs [1])] 50)).drew = w4 at *
        obtain ⟨c0, c1, c2, c3, c4, c5⟩ := six_cells h4
        have hD4 : DkIn F w4 p d := hD.kept (Touch.of_below (fun _ => False) B4) (fun _ _ e => e)
        have T4 := Touch.of_below F B4
        clear h4 B4 hD
        go_wp2_with fail
        refine wp_loop_rounds 4 ?_
        rw [rounds_succ]
        go_wp2_with fail
        have hD5 := hD4.kept (Touch.of_below (fun _ => False) (below_one' w4 (.cells #[.int .i64 at_, .string { data := #[0] }] 49))) (fun _ _ e => e)
        have T5 := T4.trans (Touch.of_below F (below_one' w4 (.cells #[.int .i64 at_, .string { data := #[0] }] 49))) (fun k hk => .inl hk)
        generalize w4.alloc (.cells #[.int .i64 at_, .string { data := #[0] }] 49) = w5 at *
        (with_reducible refine (k1 w5 hD5).mono ?_)
        rintro e w7 ⟨rfl, hd, t⟩
        have hD7 := hd.back h1 (fun k hk => Nat.lt_of_lt_of_le (hD5.lt k hk) t.size)
        have T7 := T5.trans t (fun k hk => .inl hk)
        clear hd t hD4 hD5 T4 T5
        go_wp2_with fail
        rw [rounds_succ]
        go_wp2_with fail
        have hD8 := hD7.kept (Touch.of_below (fun _ => False) (below_one' w7 (.cells #[.int .i64 ((at_ : Int) + 1), .string (bs R)] 49))) (fun _ _ e => e)
        have T8 := T7.trans (Touch.of_below F (below_one' w7 (.cells #[.int .i64 ((at_ : Int) + 1), .string (bs R)] 49))) (fun k hk => .inl hk)
        generalize w7.alloc (.cells #[.int .i64 ((at_ : Int) + 1), .string (bs R)] 49) = w8 at *
        (with_reducible refine (k2 w8 hD8).mono ?_)
        rintro e w10 ⟨rfl, hd, t⟩
        have hD10 := hd.back h1 (fun k hk => Nat.lt_of_lt_of_le (hD8.lt k hk) t.size)
        have T10 := T8.trans t (fun k hk => .inl hk)
        clear hd t hD7 hD8 T7 T8
        go_wp2_with fail
        rw [rounds_succ]
        go_wp2_with fail
        have hD11 := hD10.kept (Touch.of_below (fun _ => False) (below_one' w10 (.cells #[.int .i64 at_, .string (bs [1])] 49))) (fun _ _ e => e)
        have T11 := T10.trans (Touch.of_below F (below_one' w10 (.cells #[.int .i64 at_, .string (bs [1])] 49))) (fun k hk => .inl hk)
        generalize w10.alloc (.cells #[.int .i64 at_, .string (bs [1])] 49) = w11 at *
        (with_reducible refine (k3 w11 hD11).mono ?_)
        rintro e w13 ⟨rfl, hd, t⟩
        have hD13 := hd.back h1 (fun k hk => Nat.lt_of_lt_of_le (hD11.lt k hk) t.size)
        have T13 := T11.trans t (fun k hk => .inl hk)
        clear hd t hD10 hD11 T10 T11
        go_wp2_with fail
        rw [rounds_succ]
        go_wp2_with fail
        go_ret
        exact ⟨rfl, hD13.mono (fun k hk => .inl hk) (gr_lt h2 T13.size), T13⟩
      · have zb : (E == 0) = false := beq_false_of_ne z3
        have i0 := fun w => (step_at (.int .i64 at_) (.string { data := #[0] }) (.int .i64 ((at_ : Int) + 1)) (.string (bs R)) (.int .i64 at_) (.string (bs [1])) w).1
        have i1 := fun w => (step_at (.int .i64 at_) (.string { data := #[0] }) (.int .i64 ((at_ : Int) + 1)) (.string (bs R)) (.int .i64 at_) (.string (bs [1])) w).2.1
        have i2 := fun w => (step_at (.int .i64 at_) (.string { data := #[0] }) (.int .i64 ((at_ : Int) + 1)) (.string (bs R)) (.int .i64 at_) (.string (bs [1])) w).2.2
        go_enter Try.func9, Try.ntmps9
        go_wp2_with fail
        (with_reducible refine sl.mono ?_)
        rintro e w1 ⟨rfl, b1⟩
        go_wp2_with fail
        (with_reducible refine (nx _).mono ?_)
        rintro e w2 ⟨rfl, b2⟩
        go_wp2_with fail
        (with_reducible refine (pk _).mono ?_)
        rintro e w3 ⟨rfl, b3⟩
        have b3' := (b1.trans (b2.mono b1.size)).trans (b3.mono (b1.trans (b2.mono b1.size)).size)
        clear b1 b2 b3 sl nx pk
        go_wp2_with fail
        go_region
        have B4 := b3'.trans ((below_one' w3 (.cells #[.int .i64 at_, .string { data := #[0] }, .int .i64 ((at_ : Int) + 1), .string (bs R), .int .i64 at_, .string (bs [1])] 50)).drew.mono b3'.size)
        have h4 : (w3.alloc (.cells #[.int .i64 at_, .string { data := #[0] }, .int .i64 ((at_ : Int) + 1), .string (bs R), .int .i64 at_, .string (bs [1])] 50)).drew.heap[w3.heap.size]? = _ := heap_alloc_new w3 (.cells #[.int .i64 at_, .string { data := #[0] }, .int .i64 ((at_ : Int) + 1), .string (bs R), .int .i64 at_, .string (bs [1])] 50)
        clear b3'
        generalize (w3.alloc (.cells #[.int .i64 at_, .string { data := #[0] }, .int .i64 ((at_ : Int) + 1), .string (bs R), .int .i64 at_, .string (bs [1])] 50)).drew = w4 at *
        obtain ⟨c0, c1, c2, c3, c4, c5⟩ := six_cells h4
        have hD4 : DkIn F w4 p d := hD.kept (Touch.of_below (fun _ => False) B4) (fun _ _ e => e)
        have T4 := Touch.of_below F B4
        clear h4 B4 hD
        go_wp2_with fail
        refine wp_loop_rounds 4 ?_
        rw [rounds_succ]
        go_wp2_with fail
        have hD5 := hD4.kept (Touch.of_below (fun _ => False) (below_one' w4 (.cells #[.int .i64 at_, .string { data := #[0] }] 49))) (fun _ _ e => e)
        have T5 := T4.trans (Touch.of_below F (below_one' w4 (.cells #[.int .i64 at_, .string { data := #[0] }] 49))) (fun k hk => .inl hk)
        generalize w4.alloc (.cells #[.int .i64 at_, .string { data := #[0] }] 49) = w5 at *
        (with_reducible refine (k1 w5 hD5).mono ?_)
        rintro e w7 ⟨rfl, hd, t⟩
        have hD7 := hd.back h1 (fun k hk => Nat.lt_of_lt_of_le (hD5.lt k hk) t.size)
        have T7 := T5.trans t (fun k hk => .inl hk)
        clear hd t hD4 hD5 T4 T5
        go_wp2_with fail
        rw [rounds_succ]
        go_wp2_with fail
        have hD8 := hD7.kept (Touch.of_below (fun _ => False) (below_one' w7 (.cells #[.int .i64 ((at_ : Int) + 1), .string (bs R)] 49))) (fun _ _ e => e)
        have T8 := T7.trans (Touch.of_below F (below_one' w7 (.cells #[.int .i64 ((at_ : Int) + 1), .string (bs R)] 49))) (fun k hk => .inl hk)
        generalize w7.alloc (.cells #[.int .i64 ((at_ : Int) + 1), .string (bs R)] 49) = w8 at *
        (with_reducible refine (k2 w8 hD8).mono ?_)
        rintro e w10 ⟨rfl, hd, t⟩
        have hD10 := hd.back h1 (fun k hk => Nat.lt_of_lt_of_le (hD8.lt k hk) t.size)
        have T10 := T8.trans t (fun k hk => .inl hk)
        clear hd t hD7 hD8 T7 T8
        go_wp2_with fail
        rw [rounds_succ]
        go_wp2_with fail
        have hD11 := hD10.kept (Touch.of_below (fun _ => False) (below_one' w10 (.cells #[.int .i64 at_, .string (bs [1])] 49))) (fun _ _ e => e)
        have T11 := T10.trans (Touch.of_below F (below_one' w10 (.cells #[.int .i64 at_, .string (bs [1])] 49))) (fun k hk => .inl hk)
        generalize w10.alloc (.cells #[.int .i64 at_, .string (bs [1])] 49) = w11 at *
        (with_reducible refine (k3 w11 hD11).mono ?_)
        rintro e w13 ⟨rfl, hd, t⟩
        have hD13 := hd.back h1 (fun k hk => Nat.lt_of_lt_of_le (hD11.lt k hk) t.size)
        have T13 := T11.trans t (fun k hk => .inl hk)
        clear hd t hD10 hD11 T10 T11
        go_wp2_with fail
        go_ret
        exact ⟨rfl, hD13.mono (fun k hk => .inl hk) (gr_lt h2 T13.size), T13⟩
    · obtain ⟨g1, g2⟩ := three_second (c := wsFrom at_ [1]) z1 z2
      rw [g1, g2]
      rw [z1] at k1
      clear g1 g2 z1 ok1 ok2 k3
      generalize wE (wW d (wsFrom at_ [0])) (wsFrom (at_ + 1) R) = E at *
      generalize wW (wW d (wsFrom at_ [0])) (wsFrom (at_ + 1) R) = D2 at *
      generalize wW d (wsFrom at_ [0]) = D1 at *
      have zb : (E == 0) = false := beq_false_of_ne z2
      have i0 := fun w => (step_at (.int .i64 at_) (.string { data := #[0] }) (.int .i64 ((at_ : Int) + 1)) (.string (bs R)) (.int .i64 at_) (.string (bs [1])) w).1
      have i1 := fun w => (step_at (.int .i64 at_) (.string { data := #[0] }) (.int .i64 ((at_ : Int) + 1)) (.string (bs R)) (.int .i64 at_) (.string (bs [1])) w).2.1
      have i2 := fun w => (step_at (.int .i64 at_) (.string { data := #[0] }) (.int .i64 ((at_ : Int) + 1)) (.string (bs R)) (.int .i64 at_) (.string (bs [1])) w).2.2
      go_enter Try.func9, Try.ntmps9
      go_wp2_with fail
      (with_reducible refine sl.mono ?_)
      rintro e w1 ⟨rfl, b1⟩
      go_wp2_with fail
      (with_reducible refine (nx _).mono ?_)
      rintro e w2 ⟨rfl, b2⟩
      go_wp2_with fail
      (with_reducible refine (pk _).mono ?_)
      rintro e w3 ⟨rfl, b3⟩
      have b3' := (b1.trans (b2.mono b1.size)).trans (b3.mono (b1.trans (b2.mono b1.size)).size)
      clear b1 b2 b3 sl nx pk
      go_wp2_with fail
      go_region
      have B4 := b3'.trans ((below_one' w3 (.cells #[.int .i64 at_, .string { data := #[0] }, .int .i64 ((at_ : Int) + 1), .string (bs R), .int .i64 at_, .string (bs [1])] 50)).drew.mono b3'.size)
      have h4 : (w3.alloc (.cells #[.int .i64 at_, .string { data := #[0] }, .int .i64 ((at_ : Int) + 1), .string (bs R), .int .i64 at_, .string (bs [1])] 50)).drew.heap[w3.heap.size]? = _ := heap_alloc_new w3 (.cells #[.int .i64 at_, .string { data := #[0] }, .int .i64 ((at_ : Int) + 1), .string (bs R), .int .i64 at_, .string (bs [1])] 50)
      clear b3'
      generalize (w3.alloc (.cells #[.int .i64 at_, .string { data := #[0] }, .int .i64 ((at_ : Int) + 1), .string (bs R), .int .i64 at_, .string (bs [1])] 50)).drew = w4 at *
      obtain ⟨c0, c1, c2, c3, c4, c5⟩ := six_cells h4
      have hD4 : DkIn F w4 p d := hD.kept (Touch.of_below (fun _ => False) B4) (fun _ _ e => e)
      have T4 := Touch.of_below F B4
      clear h4 B4 hD
      go_wp2_with fail
      refine wp_loop_rounds 4 ?_
      rw [rounds_succ]
      go_wp2_with fail
      have hD5 := hD4.kept (Touch.of_below (fun _ => False) (below_one' w4 (.cells #[.int .i64 at_, .string { data := #[0] }] 49))) (fun _ _ e => e)
      have T5 := T4.trans (Touch.of_below F (below_one' w4 (.cells #[.int .i64 at_, .string { data := #[0] }] 49))) (fun k hk => .inl hk)
      generalize w4.alloc (.cells #[.int .i64 at_, .string { data := #[0] }] 49) = w5 at *
      (with_reducible refine (k1 w5 hD5).mono ?_)
      rintro e w7 ⟨rfl, hd, t⟩
      have hD7 := hd.back h1 (fun k hk => Nat.lt_of_lt_of_le (hD5.lt k hk) t.size)
      have T7 := T5.trans t (fun k hk => .inl hk)
      clear hd t hD4 hD5 T4 T5
      go_wp2_with fail
      rw [rounds_succ]
      go_wp2_with fail
      have hD8 := hD7.kept (Touch.of_below (fun _ => False) (below_one' w7 (.cells #[.int .i64 ((at_ : Int) + 1), .string (bs R)] 49))) (fun _ _ e => e)
      have T8 := T7.trans (Touch.of_below F (below_one' w7 (.cells #[.int .i64 ((at_ : Int) + 1), .string (bs R)] 49))) (fun k hk => .inl hk)
      generalize w7.alloc (.cells #[.int .i64 ((at_ : Int) + 1), .string (bs R)] 49) = w8 at *
      (with_reducible refine (k2 w8 hD8).mono ?_)
      rintro e w10 ⟨rfl, hd, t⟩
      have hD10 := hd.back h1 (fun k hk => Nat.lt_of_lt_of_le (hD8.lt k hk) t.size)
      have T10 := T8.trans t (fun k hk => .inl hk)
      clear hd t hD7 hD8 T7 T8
      go_wp2_with fail
      go_ret
      exact ⟨rfl, hD10.mono (fun k hk => .inl hk) (gr_lt h2 T10.size), T10⟩
  · obtain ⟨g1, g2⟩ := three_first (b := wsFrom (at_ + 1) R) (c := wsFrom at_ [1]) z1
    rw [g1, g2]
    clear g1 g2 ok1 ok2 k3 k2
    generalize wE d (wsFrom at_ [0]) = E at *
    generalize wW d (wsFrom at_ [0]) = D1 at *
    have zb : (E == 0) = false := beq_false_of_ne z1
    have i0 := fun w => (step_at (.int .i64 at_) (.string { data := #[0] }) (.int .i64 ((at_ : Int) + 1)) (.string (bs R)) (.int .i64 at_) (.string (bs [1])) w).1
    have i1 := fun w => (step_at (.int .i64 at_) (.string { data := #[0] }) (.int .i64 ((at_ : Int) + 1)) (.string (bs R)) (.int .i64 at_) (.string (bs [1])) w).2.1
    have i2 := fun w => (step_at (.int .i64 at_) (.string { data := #[0] }) (.int .i64 ((at_ : Int) + 1)) (.string (bs R)) (.int .i64 at_) (.string (bs [1])) w).2.2
    go_enter Try.func9, Try.ntmps9
    go_wp2_with fail
    (with_reducible refine sl.mono ?_)
    rintro e w1 ⟨rfl, b1⟩
    go_wp2_with fail
    (with_reducible refine (nx _).mono ?_)
    rintro e w2 ⟨rfl, b2⟩
    go_wp2_with fail
    (with_reducible refine (pk _).mono ?_)
    rintro e w3 ⟨rfl, b3⟩
    have b3' := (b1.trans (b2.mono b1.size)).trans (b3.mono (b1.trans (b2.mono b1.size)).size)
    clear b1 b2 b3 sl nx pk
    go_wp2_with fail
    go_region
    have B4 := b3'.trans ((below_one' w3 (.cells #[.int .i64 at_, .string { data := #[0] }, .int .i64 ((at_ : Int) + 1), .string (bs R), .int .i64 at_, .string (bs [1])] 50)).drew.mono b3'.size)
    have h4 : (w3.alloc (.cells #[.int .i64 at_, .string { data := #[0] }, .int .i64 ((at_ : Int) + 1), .string (bs R), .int .i64 at_, .string (bs [1])] 50)).drew.heap[w3.heap.size]? = _ := heap_alloc_new w3 (.cells #[.int .i64 at_, .string { data := #[0] }, .int .i64 ((at_ : Int) + 1), .string (bs R), .int .i64 at_, .string (bs [1])] 50)
    clear b3'
    generalize (w3.alloc (.cells #[.int .i64 at_, .string { data := #[0] }, .int .i64 ((at_ : Int) + 1), .string (bs R), .int .i64 at_, .string (bs [1])] 50)).drew = w4 at *
    obtain ⟨c0, c1, c2, c3, c4, c5⟩ := six_cells h4
    have hD4 : DkIn F w4 p d := hD.kept (Touch.of_below (fun _ => False) B4) (fun _ _ e => e)
    have T4 := Touch.of_below F B4
    clear h4 B4 hD
    go_wp2_with fail
    refine wp_loop_rounds 4 ?_
    rw [rounds_succ]
    go_wp2_with fail
    have hD5 := hD4.kept (Touch.of_below (fun _ => False) (below_one' w4 (.cells #[.int .i64 at_, .string { data := #[0] }] 49))) (fun _ _ e => e)
    have T5 := T4.trans (Touch.of_below F (below_one' w4 (.cells #[.int .i64 at_, .string { data := #[0] }] 49))) (fun k hk => .inl hk)
    generalize w4.alloc (.cells #[.int .i64 at_, .string { data := #[0] }] 49) = w5 at *
    (with_reducible refine (k1 w5 hD5).mono ?_)
    rintro e w7 ⟨rfl, hd, t⟩
    have hD7 := hd.back h1 (fun k hk => Nat.lt_of_lt_of_le (hD5.lt k hk) t.size)
    have T7 := T5.trans t (fun k hk => .inl hk)
    clear hd t hD4 hD5 T4 T5
    go_wp2_with fail
    go_ret
    exact ⟨rfl, hD7.mono (fun k hk => .inl hk) (gr_lt h2 T7.size), T7⟩
end Go.Proofs.Ytcfdggeoecdnnaa.W
