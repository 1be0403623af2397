/- The code's agenda, walked: Next, Take, Double. -/
import Derived.Test.YtcnfidfpgohpoaaAgM
namespace Go.Proofs.Ytcnfidfpgohpoaa.W
open Go.RowKit Go.Sort
set_option linter.unusedVariables false
set_option linter.unusedSimpArgs false
theorem touch4 (w : World) (b : Nat) (x0 x1 x2 x3 : Value) : Touch (fun k => k = b) w ((((w.setCell ⟨b, 0, none⟩ x0).setCell ⟨b, 1, none⟩ x1).setCell ⟨b, 2, none⟩ x2).setCell ⟨b, 3, none⟩ x3) :=
  ⟨rfl, rfl, rfl, by rw [set_size, set_size, set_size, set_size]; exact Nat.le_refl _, fun k _ hk => it_far _ _ _ _ hk⟩
theorem touch4_new {F : Nat → Prop} {w0 w : World} (h : Touch F w0 w) {b : Nat} (hb : w0.heap.size ≤ b) (x0 x1 x2 x3 : Value) : Touch F w0 ((((w.setCell ⟨b, 0, none⟩ x0).setCell ⟨b, 1, none⟩ x1).setCell ⟨b, 2, none⟩ x2).setCell ⟨b, 3, none⟩ x3) :=
  h.trans (touch4 w b x0 x1 x2 x3) (fun k hk => .inr (by rw [hk]; exact hb))
theorem below4 {w0 w : World} (h : Below w0.heap.size w0 w) {b : Nat} (hb : w0.heap.size ≤ b) (x0 x1 x2 x3 : Value) : Below w0.heap.size w0 ((((w.setCell ⟨b, 0, none⟩ x0).setCell ⟨b, 1, none⟩ x1).setCell ⟨b, 2, none⟩ x2).setCell ⟨b, 3, none⟩ x3) :=
  (touch4 w b x0 x1 x2 x3).below h h.size (fun k hk => by rw [hk]; exact hb)
set_option maxRecDepth 100000 in
set_option maxHeartbeats 3200000 in
theorem gnext_any {F : Nat → Prop} {p : Nat} {a : Ag} (ok : a.Ok) (n1 : a.n ≤ 1000000) (w : World) (hc : AgIn F w p a) :
    Calls Try.prog 15 #[.pointer (some ⟨p, 0, none⟩)] w fun e w' => e = .returned (.tuple #[.agg #[.int .i64 (nextV a).at_, .int .i64 (nextV a).kind, .string (bs (nextV a).data), .int .i64 (nextV a).ticket], .bool (nextB a)]) ∧ Below w.heap.size w w' := by
  obtain ⟨h1, h2, hb, v, m, h, h3, h4, h5, h6, h7, h8, h9, hp, hH⟩ := hc
  have hA : Below w.heap.size w (w.alloc (.cells #[.int .i64 0, .int .i64 0, .string { data := #[] }, .int .i64 0] 39)) := (Below.refl _ _).alloc (Nat.le_refl _) _
  have hr := heap_alloc_new w (.cells #[.int .i64 0, .int .i64 0, .string { data := #[] }, .int .i64 0] 39)
  have hs1 : (w.alloc (.cells #[.int .i64 0, .int .i64 0, .string { data := #[] }, .int .i64 0] 39)).heap.size = w.heap.size + 1 := World.size_alloc _ _
  obtain ⟨l1, l2, l3⟩ := h4.lt
  have hpl := h2 p h1
  have h4' := h4.below hA
  have h3' := (hA.block p hpl).trans h3
  have hroot := root_head ok hH hp
  have hlen := hp.length_eq
  have hl := len_row h4.row
  have A := Lib.hid hA
  unfold nextV nextB
  clear h3 h4 hA
  go_enter Try.func15, Try.ntmps15
  go_wp2_with fail
  generalize w.alloc (.cells #[.int .i64 0, .int .i64 0, .string { data := #[] }, .int .i64 0] 39) = w1 at *
  obtain ⟨q0, _⟩ := one_cell h3'
  have cg := gheap_any w1 q0
  obtain ⟨b0, _, _, _, _, _⟩ := three_cells h4'.blk
  obtain ⟨z0, z1, z2, z3⟩ := four_cells hr
  obtain ⟨f0, f1, f2, f3⟩ := four_frozen hr
  have HR := Lib.hid hr
  cases hal : a.l with
  | nil =>
    have h0 : h.length = 0 := by rw [hlen, hal]; rfl
    have h0' : (h.length : Int) = 0 := by omega
    have hf := it_sets (.int .i64 0) (.int .i64 0) (.string { data := #[] }) (.int .i64 0) hr
    have hB : Below w.heap.size w ((((w1.setCell ⟨w.heap.size, 0, none⟩ (.int .i64 0)).setCell ⟨w.heap.size, 1, none⟩ (.int .i64 0)).setCell ⟨w.heap.size, 2, none⟩ (.string { data := #[] })).setCell ⟨w.heap.size, 3, none⟩ (.int .i64 0)) := below4 A.out (Nat.le_refl _) _ _ _ _
    have E := Lib.hid (And.intro hf hB)
    have HAL := Lib.hid hal
    clear hf hB hr h4' h3' hp hH hroot hal
    (with_reducible refine cg.mono ?_)
    rintro e w2 ⟨rfl, rfl⟩
    go_wp2_with fail
    obtain ⟨q0, q1, q2, q3⟩ := four_cells E.out.1
    exact bodyPost_ret (v := .tuple #[.agg #[.int .i64 0, .int .i64 0, .string { data := #[] }, .int .i64 0], .bool false]) (by simp [results, Try.results15, go_sem, q0, q1, q2, q3]) rfl ⟨by rw [HAL.out]; rfl, E.out.2⟩
  | cons x l =>
    have h0 : 0 < h.length := by rw [hlen, hal]; simp
    have h0' : ((h.length : Int) == 0) = false := by rw [beq_eq_false_iff_ne]; omega
    have h1' : (0 : Int) < (h.length : Int) := by omega
    have hx : h[0]? = some x := by rw [hroot, hal]; rfl
    obtain ⟨g, cap, rfl⟩ := h4'.at_ h0
    obtain ⟨a0, a1, a2, a3⟩ := row_cells h4'.row hx
    simp only [Nat.zero_mul, Nat.zero_add] at a0 a1 a2 a3
    have hf := it_sets (.int .i64 x.at_) (.int .i64 x.kind) (.string (bs x.data)) (.int .i64 x.ticket) hr
    have hB : Below w.heap.size w ((((w1.setCell ⟨w.heap.size, 0, none⟩ (.int .i64 x.at_)).setCell ⟨w.heap.size, 1, none⟩ (.int .i64 x.kind)).setCell ⟨w.heap.size, 2, none⟩ (.string (bs x.data))).setCell ⟨w.heap.size, 3, none⟩ (.int .i64 x.ticket)) := below4 A.out (Nat.le_refl _) _ _ _ _
    have E := Lib.hid (And.intro hf hB)
    have hne : w.heap.size ≠ g := by have := l3 g rfl; omega
    have HAL := Lib.hid hal
    clear hf hB hr h4' h3' hp hH hroot hal hx
    (with_reducible refine cg.mono ?_)
    rintro e w2 ⟨rfl, rfl⟩
    go_wp2_with fail
    obtain ⟨q0, q1, q2, q3⟩ := four_cells E.out.1
    exact bodyPost_ret (v := .tuple #[.agg #[.int .i64 x.at_, .int .i64 x.kind, .string (bs x.data), .int .i64 x.ticket], .bool true]) (by simp [results, Try.results15, go_sem, q0, q1, q2, q3]) rfl ⟨by rw [HAL.out]; rfl, E.out.2⟩
set_option maxRecDepth 100000 in
set_option maxHeartbeats 3200000 in
theorem gtak_any {F : Nat → Prop} {p : Nat} {a : Ag} (ok : a.Ok) (n1 : a.n ≤ 1000000) (now : Int) (t0 : -9223372036854775808 ≤ now) (t1 : now ≤ 9223372036854775807) (w : World) (hc : AgIn F w p a) :
    Calls Try.prog 17 #[.pointer (some ⟨p, 0, none⟩), .int .i64 now] w fun e w' => e = .returned (.tuple #[.agg #[.int .i64 (takV a now).at_, .int .i64 (takV a now).kind, .string (bs (takV a now).data), .int .i64 (takV a now).ticket], .bool (dueB a now)]) ∧ AgIn (Gr F w w') w' p (takS a now) ∧ Touch F w w' := by
  have hA : Below w.heap.size w (w.alloc (.cells #[.int .i64 0, .int .i64 0, .string { data := #[] }, .int .i64 0] 39)) := (Below.refl _ _).alloc (Nat.le_refl _) _
  have hr := heap_alloc_new w (.cells #[.int .i64 0, .int .i64 0, .string { data := #[] }, .int .i64 0] 39)
  have hs1 : (w.alloc (.cells #[.int .i64 0, .int .i64 0, .string { data := #[] }, .int .i64 0] 39)).heap.size = w.heap.size + 1 := World.size_alloc _ _
  have hc1 := hc.below hA
  have cn := gnext_any ok n1 _ hc1
  have hlt := hc.lt
  have A := Lib.hid (And.intro hA (And.intro hr hc1))
  clear hc hA hr hc1
  go_enter Try.func17, Try.ntmps17
  go_wp2_with fail
  generalize w.alloc (.cells #[.int .i64 0, .int .i64 0, .string { data := #[] }, .int .i64 0] 39) = w1 at *
  (with_reducible refine cn.mono ?_)
  rintro e w2 ⟨rfl, hB2⟩
  have hz2 := hB2.size
  have hB := A.out.1.trans (hB2.mono (by omega))
  have hr2 := (hB2.block w.heap.size (by omega)).trans A.out.2.1
  have B := Lib.hid (And.intro hB (And.intro hr2 (A.out.2.2.below hB2)))
  have hw2 : w.heap.size < w2.heap.size := by omega
  have hB3 := hB.alloc (Nat.le_of_lt hw2) (.cells #[.int .i64 (nextV a).at_, .int .i64 (nextV a).kind, .string (bs (nextV a).data), .int .i64 (nextV a).ticket] 39)
  have hr3 := (Below.heap_alloc w2 (.cells #[.int .i64 (nextV a).at_, .int .i64 (nextV a).kind, .string (bs (nextV a).data), .int .i64 (nextV a).ticket] 39) w.heap.size hw2).trans hr2
  have hC3 := (A.out.2.2.below hB2).below ((Below.refl _ _).alloc (Nat.le_refl _) (.cells #[.int .i64 (nextV a).at_, .int .i64 (nextV a).kind, .string (bs (nextV a).data), .int .i64 (nextV a).ticket] 39))
  have hy3 := heap_alloc_new w2 (.cells #[.int .i64 (nextV a).at_, .int .i64 (nextV a).kind, .string (bs (nextV a).data), .int .i64 (nextV a).ticket] 39)
  have hs3 : (w2.alloc (.cells #[.int .i64 (nextV a).at_, .int .i64 (nextV a).kind, .string (bs (nextV a).data), .int .i64 (nextV a).ticket] 39)).heap.size = w2.heap.size + 1 := World.size_alloc _ _
  clear cn
  obtain ⟨y0, y1, y2, y3⟩ := four_cells hy3
  cases hd : dueB a now with
  | false =>
    have hne2 : w.heap.size ≠ w2.heap.size := by omega
    have hsz4 : ((((w2.setCell ⟨w.heap.size, 0, none⟩ (.int .i64 0)).setCell ⟨w.heap.size, 1, none⟩ (.int .i64 0)).setCell ⟨w.heap.size, 2, none⟩ (.string { data := #[] })).setCell ⟨w.heap.size, 3, none⟩ (.int .i64 0)).heap.size = w2.heap.size := by rw [set_size, set_size, set_size, set_size]
    have hfin := (Below.heap_alloc ((((w2.setCell ⟨w.heap.size, 0, none⟩ (.int .i64 0)).setCell ⟨w.heap.size, 1, none⟩ (.int .i64 0)).setCell ⟨w.heap.size, 2, none⟩ (.string { data := #[] })).setCell ⟨w.heap.size, 3, none⟩ (.int .i64 0)) (.cells #[.int .i64 (nextV a).at_, .int .i64 (nextV a).kind, .string (bs (nextV a).data), .int .i64 (nextV a).ticket] 39) w.heap.size (by rw [hsz4]; exact hw2)).trans (it_sets (.int .i64 0) (.int .i64 0) (.string { data := #[] }) (.int .i64 0) hr2)
    have hBf : Below w.heap.size w (((((w2.setCell ⟨w.heap.size, 0, none⟩ (.int .i64 0)).setCell ⟨w.heap.size, 1, none⟩ (.int .i64 0)).setCell ⟨w.heap.size, 2, none⟩ (.string { data := #[] })).setCell ⟨w.heap.size, 3, none⟩ (.int .i64 0)).alloc (.cells #[.int .i64 (nextV a).at_, .int .i64 (nextV a).kind, .string (bs (nextV a).data), .int .i64 (nextV a).ticket] 39)) := (below4 hB (Nat.le_refl _) _ _ _ _).alloc (by rw [hsz4]; omega) _
    have hCf : AgIn F (((((w2.setCell ⟨w.heap.size, 0, none⟩ (.int .i64 0)).setCell ⟨w.heap.size, 1, none⟩ (.int .i64 0)).setCell ⟨w.heap.size, 2, none⟩ (.string { data := #[] })).setCell ⟨w.heap.size, 3, none⟩ (.int .i64 0)).alloc (.cells #[.int .i64 (nextV a).at_, .int .i64 (nextV a).kind, .string (bs (nextV a).data), .int .i64 (nextV a).ticket] 39)) p a := ((A.out.2.2.below hB2).kept (touch4 _ _ _ _ _ _) (fun k hk e => by have := hlt k hk; omega)).below ((Below.refl _ _).alloc (Nat.le_refl _) _)
    obtain ⟨z0, z1, z2, z3⟩ := four_cells hr2
    obtain ⟨f0, f1, f2, f3⟩ := four_frozen hr2
    have E := Lib.hid (And.intro hfin (And.intro hBf hCf))
    have HD := Lib.hid hd
    have hnot : nextB a = false ∨ (nextB a = true ∧ now < (nextV a).at_) := by
      unfold nextB nextV
      unfold dueB at hd
      cases hal : a.l with
      | nil => exact .inl rfl
      | cons x l =>
        rw [hal] at hd
        simp at hd
        exact .inr ⟨rfl, hd⟩
    clear hfin hBf hCf hB3 hr3 hC3 hy3 hd B hB hr2 hB2 A hsz4
    generalize nextV a = y at *
    rcases hnot with hn | ⟨hn, hlt'⟩
    · rw [hn]
      go_wp2_with fail
      obtain ⟨q0, q1, q2, q3⟩ := four_cells E.out.1
      refine bodyPost_ret (v := .tuple #[.agg #[.int .i64 0, .int .i64 0, .string { data := #[] }, .int .i64 0], .bool false]) ?_ rfl ?_
      · simp [results, Try.results17, go_sem, q0, q1, q2, q3]
      · rw [show takV a now = itZero by unfold takV; rw [HD.out]; rfl, show takS a now = a by unfold takS; rw [HD.out]; rfl, HD.out]
        exact ⟨rfl, E.out.2.2.mono (fun k hk => .inl hk) (gr_lt hlt E.out.2.1.size), Touch.of_below F E.out.2.1⟩
    · rw [hn]
      go_wp2_with fail
      obtain ⟨q0, q1, q2, q3⟩ := four_cells E.out.1
      refine bodyPost_ret (v := .tuple #[.agg #[.int .i64 0, .int .i64 0, .string { data := #[] }, .int .i64 0], .bool false]) ?_ rfl ?_
      · simp [results, Try.results17, go_sem, q0, q1, q2, q3]
      · rw [show takV a now = itZero by unfold takV; rw [HD.out]; rfl, show takS a now = a by unfold takS; rw [HD.out]; rfl, HD.out]
        exact ⟨rfl, E.out.2.2.mono (fun k hk => .inl hk) (gr_lt hlt E.out.2.1.size), Touch.of_below F E.out.2.1⟩
  | true =>
    have HD := Lib.hid hd
    obtain ⟨h1, h2, hb, v, m, h, h3, h4, h5, h6, h7, h8, h9, hp, hH⟩ := hC3
    have hroot := root_head ok hH hp
    obtain ⟨hn, hle, hx0, l, hal⟩ : nextB a = true ∧ (nextV a).at_ ≤ now ∧ h[0]? = some (nextV a) ∧ ∃ l, a.l = nextV a :: l := by
      unfold nextB nextV
      unfold dueB at hd
      cases hal : a.l with
      | nil => rw [hal] at hd; cases hd
      | cons x l =>
        rw [hal] at hd hroot
        simp at hd
        exact ⟨rfl, hd, hroot, l, rfl⟩
    obtain ⟨q0, _⟩ := one_cell h3
    have cg := gheap_any (w2.alloc (.cells #[.int .i64 (nextV a).at_, .int .i64 (nextV a).kind, .string (bs (nextV a).data), .int .i64 (nextV a).ticket] 39)) q0
    have cr := gremove_any (p := 0) (w2.alloc (.cells #[.int .i64 (nextV a).at_, .int .i64 (nextV a).kind, .string (bs (nextV a).data), .int .i64 (nextV a).ticket] 39)) h4 hx0 hH
    unfold It.valE at cr
    have e0 : ((0 : Nat) : Int) = 0 := rfl
    rw [e0] at cr
    have P := Lib.hid (And.intro h1 (And.intro h2 (And.intro h3 (And.intro h5 (And.intro h6 (And.intro h7 (And.intro h8 (And.intro h9 (And.intro hp (And.intro hal (And.intro hr3 hB3)))))))))))
    have hk : hb ≠ w.heap.size ∧ m ≠ w.heap.size ∧ ∀ g, v.ownBlock = some g → g ≠ w.heap.size := by
      refine ⟨?_, ?_, fun g hg => ?_⟩
      · have := hlt hb h5; omega
      · have := hlt m h6; omega
      · have := hlt g (h7 g hg).1; omega
    have HK := Lib.hid hk
    clear h1 h2 h3 h4 h5 h6 h7 h8 h9 hp hH hk hd hroot hx0 hr3 hB3 hy3 B hB hr2 hB2 A
    generalize hY : nextV a = y at *
    have HY := Lib.hid hY
    clear hY
    rw [hn]
    go_wp2_with fail
    (with_reducible refine cg.mono ?_)
    rintro e w3 ⟨rfl, rfl⟩
    go_wp2_with fail
    (with_reducible refine cr.mono ?_)
    rintro e w4 ⟨rfl, v', h', hV, hown, hperm, hH', hT⟩
    obtain ⟨h1, h2, h3, h5, h6, h7, h8, h9, hp, hal, hr3, hB3⟩ := P.out
    have hr4 := (hT.block w.heap.size (by rw [hs3]; omega) (fun e => by
      rcases e with e | e | e
      · exact HK.out.1 e.symm
      · exact HK.out.2.1 e.symm
      · exact HK.out.2.2 _ e rfl)).trans hr3
    have hpe : h'.Perm l := (hperm.trans (by rw [← hal]; exact hp)).cons_inv
    obtain ⟨r1, r2⟩ := ag_step (a' := ⟨l, a.n⟩) h1 h2 h3 h5 h6 h7 h8 h9 hV (fun g hg => .inl (by rw [← hown]; exact hg)) hpe hH' hT
    have hfin := it_sets (.int .i64 y.at_) (.int .i64 y.kind) (.string (bs y.data)) (.int .i64 y.ticket) hr4
    have hTf : Touch F w ((((w4.setCell ⟨w.heap.size, 0, none⟩ (.int .i64 y.at_)).setCell ⟨w.heap.size, 1, none⟩ (.int .i64 y.kind)).setCell ⟨w.heap.size, 2, none⟩ (.string (bs y.data))).setCell ⟨w.heap.size, 3, none⟩ (.int .i64 y.ticket)) := touch4_new ((Touch.of_below F hB3).same r2) (Nat.le_refl _) _ _ _ _
    have hCf : AgIn (Gr F (w2.alloc (.cells #[.int .i64 y.at_, .int .i64 y.kind, .string (bs y.data), .int .i64 y.ticket] 39)) w4) ((((w4.setCell ⟨w.heap.size, 0, none⟩ (.int .i64 y.at_)).setCell ⟨w.heap.size, 1, none⟩ (.int .i64 y.kind)).setCell ⟨w.heap.size, 2, none⟩ (.string (bs y.data))).setCell ⟨w.heap.size, 3, none⟩ (.int .i64 y.ticket)) p ⟨l, a.n⟩ := r1.kept (G := fun k => k = w.heap.size) (touch4 _ _ _ _ _ _) (fun k hk e => by
      rcases hk with hk | hk
      · have := hlt k hk; omega
      · rw [hs3] at hk; omega)
    have hCg : AgIn (Gr F w ((((w4.setCell ⟨w.heap.size, 0, none⟩ (.int .i64 y.at_)).setCell ⟨w.heap.size, 1, none⟩ (.int .i64 y.kind)).setCell ⟨w.heap.size, 2, none⟩ (.string (bs y.data))).setCell ⟨w.heap.size, 3, none⟩ (.int .i64 y.ticket))) ((((w4.setCell ⟨w.heap.size, 0, none⟩ (.int .i64 y.at_)).setCell ⟨w.heap.size, 1, none⟩ (.int .i64 y.kind)).setCell ⟨w.heap.size, 2, none⟩ (.string (bs y.data))).setCell ⟨w.heap.size, 3, none⟩ (.int .i64 y.ticket)) p ⟨l, a.n⟩ := hCf.mono (fun k hk => by
      rcases hk with hk | hk
      · exact .inl hk
      · refine .inr ⟨?_, ?_⟩
        · rw [hs3] at hk; omega
        · rw [set_size, set_size, set_size, set_size]; exact hk.2) (gr_lt hlt hTf.size)
    have E := Lib.hid (And.intro hfin (And.intro hTf hCg))
    have HAL := Lib.hid hal
    obtain ⟨z0, z1, z2, z3⟩ := four_cells hr4
    obtain ⟨f0, f1, f2, f3⟩ := four_frozen hr4
    clear hfin hTf hCf hCg h1 h2 h3 h5 h6 h7 h8 h9 hp hal hr3 hB3 hV hown hperm hH' hT hr4 hpe r1 r2 cr
    go_wp2_with fail
    obtain ⟨q0, q1, q2, q3⟩ := four_cells E.out.1
    refine bodyPost_ret (v := .tuple #[.agg #[.int .i64 y.at_, .int .i64 y.kind, .string (bs y.data), .int .i64 y.ticket], .bool true]) ?_ rfl ?_
    · simp [results, Try.results17, go_sem, q0, q1, q2, q3]
    · rw [show takV a now = y by unfold takV; rw [HD.out, if_pos rfl]; exact HY.out, show takS a now = ⟨l, a.n⟩ by unfold takS; rw [HD.out, if_pos rfl, HAL.out]; rfl, HD.out]
      exact ⟨rfl, E.out.2.2, E.out.2.1⟩
end Go.Proofs.Ytcnfidfpgohpoaa.W
