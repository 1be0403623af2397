/- The document's own answers of layer 8, walked: Take, Double. -/
import Derived.Test.YtcnfidfpgohpoaaAgF
namespace Go.Proofs.Ytcnfidfpgohpoaa.W
open Go.RowKit Go.Sort
set_option linter.unusedVariables false
set_option linter.unusedSimpArgs false
/-- Cells of a block of the call's own are written: the agenda stands. -/
theorem RaIn.own {F G : Nat → Prop} {w w3 w4 : World} {p : Nat} {a : Ag} (h : RaIn G w3 p a) (t : Touch F w w3) (hG : ∀ k, G k → F k ∨ w.heap.size + 1 ≤ k) (hF : ∀ k, F k → k < w.heap.size) (u : Touch (fun k => k = w.heap.size) w3 w4) :
    RaIn (Gr F w w4) w4 p a ∧ Touch F w w4 := by
  have hd : ∀ k, G k → ¬ k = w.heap.size := fun k hk e => by
    rcases hG k hk with h' | h'
    · have := hF k h'; omega
    · omega
  have hl := h.lt
  refine ⟨(h.kept u hd).mono (fun k hk => ?_) (fun k hk => ?_), t.trans u (fun k e => .inr (by omega))⟩
  · rcases hG k hk with h' | h'
    · exact .inl h'
    · exact .inr ⟨by omega, Nat.lt_of_lt_of_le (hl k hk) u.size⟩
  · have z1 := t.size
    have z2 := u.size
    rcases hk with hk | hk
    · have := hF k hk; omega
    · exact hk.2
theorem it_touch (w : World) (b : Nat) (x0 x1 x2 x3 : Value) :
    Touch (fun k => k = b) w ((((w.setCell ⟨b, 0, none⟩ x0).setCell ⟨b, 1, none⟩ x1).setCell ⟨b, 2, none⟩ x2).setCell ⟨b, 3, none⟩ x3) :=
  ((((Touch.refl (fun k => k = b) w).setCell (p := ⟨b, 0, none⟩) (.inl rfl) _).setCell (p := ⟨b, 1, none⟩) (.inl rfl) _).setCell (p := ⟨b, 2, none⟩) (.inl rfl) _).setCell (p := ⟨b, 3, none⟩) (.inl rfl) _
set_option maxRecDepth 100000 in
set_option maxHeartbeats 12800000 in
theorem rtak_any {F : Nat → Prop} {p : Nat} {a : Ag} (ok : a.Ok) (now : Int) (w : World) (hc : RaIn F w p a) :
    Calls Try.prog 26 #[.pointer (some ⟨p, 0, none⟩), .int .i64 now] w fun e w' => e = .returned (.tuple #[.agg #[.int .i64 (takV a now).at_, .int .i64 (takV a now).kind, .string (bs (takV a now).data), .int .i64 (takV a now).ticket], .bool (dueB a now)]) ∧ RaIn (Gr F w w') w' p (takS a now) ∧ Touch F w w' := by
  have hr := ok.room
  have HC := Lib.hid hc
  obtain ⟨hp, hF, v, hb, hs⟩ := hc
  obtain ⟨p0, p1, pf0, pf1⟩ := two_cells hb
  have hpl := hF p hp
  have hpn : p ≠ w.heap.size := by omega
  have hpn1 : p ≠ w.heap.size + 1 := by omega
  have hq := heap_alloc_new w (.cells #[.int .i64 0, .int .i64 0, .string { data := #[] }, .int .i64 0] 42)
  cases hn : a.l with
  | nil =>
    have e1 : dueB a now = false := by unfold dueB; rw [hn]
    have e2 : takV a now = itZero := by unfold takV; rw [e1]; rfl
    have e3 : takS a now = a := by unfold takS; rw [e1]; rfl
    rw [e1, e2, e3]
    obtain ⟨vx, vc, rfl⟩ := hs.slice
    rw [hn] at p0
    clear hs hb e1 e2 e3 hF
    go_enter Try.func26, Try.ntmps26
    go_wp2_with fail
    obtain ⟨q0, q1, q2, q3⟩ := four_cells hq
    exact bodyPost_ret (v := .tuple #[.agg #[.int .i64 0, .int .i64 0, .string { data := #[] }, .int .i64 0], .bool false]) (by simp [results, Try.results26, go_sem, q0, q1, q2, q3]) rfl ⟨rfl, HC.out.same (by have : True := trivial; repeat' (first | (with_reducible exact Below.refl _ _) | (with_reducible assumption) | (with_reducible refine below_drewN ?_ _) | (with_reducible refine Below.drew ?_) | (with_reducible refine Below.setCell ?_ ?_ _) | (with_reducible refine Below.alloc ?_ ?_ _) | (simp; done) | (simp; omega) | omega))⟩
  | cons x l =>
    rcases hs with ⟨_, _, _, _, hnil⟩ | ⟨b, off, cap, rfl, hbF, hcs⟩
    · rw [hn] at hnil
      cases hnil
    · obtain ⟨y0, y1, y2, y3⟩ := it_at (F := F) (w := w) rfl (hcs 0 x (by rw [hn]; rfl))
      rw [Nat.zero_mul, Nat.add_zero] at y0 y1 y2 y3
      have hblt := hF b hbF.1
      have i1 : (0 : Int) < (a.l.length : Int) := by rw [hn]; simp
      obtain ⟨N, hN⟩ : ∃ N : Nat, a.l.length = N := ⟨_, rfl⟩
      rw [hN] at p0 i1
      have i2 : ((N : Int) == 0) = false := beq_eq_false_iff_ne.2 (by omega)
      by_cases hd : x.at_ ≤ now
      · have hdi : ¬ now < x.at_ := by omega
        have e1 : dueB a now = true := by unfold dueB; rw [hn]; exact decide_eq_true hd
        have e2 : takV a now = x := by unfold takV nextV; rw [e1, hn]; rfl
        have e3 : takS a now = ⟨l, a.n⟩ := by unfold takS; rw [e1, hn]; rfl
        have e4 : canS a x.ticket = ⟨l, a.n⟩ := by unfold canS; rw [off_head ok hn]
        have e5 : canE a x.ticket = 0 := by unfold canE; rw [show hasL x.ticket a.l = true by rw [hn]; simp [hasL]]; rfl
        rw [e1, e2, e3]
        have hB1 : Below w.heap.size w (w.alloc (.cells #[.int .i64 0, .int .i64 0, .string { data := #[] }, .int .i64 0] 42)) := (Below.refl _ _).alloc (Nat.le_refl _) _
        have hB2 : Below w.heap.size w ((w.alloc (.cells #[.int .i64 0, .int .i64 0, .string { data := #[] }, .int .i64 0] 42)).alloc (.cells #[.int .i64 x.at_, .int .i64 x.kind, .string (bs x.data), .int .i64 x.ticket] 42)) := hB1.alloc (by rw [World.size_alloc]; omega) _
        have d := rcan_any x.ticket (by omega) _ (HC.out.below hB2)
        rw [e4, e5] at d
        have hq' := (Below.heap_alloc (w.alloc (.cells #[.int .i64 0, .int .i64 0, .string { data := #[] }, .int .i64 0] 42)) (.cells #[.int .i64 x.at_, .int .i64 x.kind, .string (bs x.data), .int .i64 x.ticket] 42) w.heap.size (by rw [World.size_alloc]; omega)).trans hq
        have hx' : ((w.alloc (.cells #[.int .i64 0, .int .i64 0, .string { data := #[] }, .int .i64 0] 42)).alloc (.cells #[.int .i64 x.at_, .int .i64 x.kind, .string (bs x.data), .int .i64 x.ticket] 42)).heap[w.heap.size + 1]? = some (.cells #[.int .i64 x.at_, .int .i64 x.kind, .string (bs x.data), .int .i64 x.ticket] 42 (0, 0)) := by
          have := heap_alloc_new (w.alloc (.cells #[.int .i64 0, .int .i64 0, .string { data := #[] }, .int .i64 0] 42)) (.cells #[.int .i64 x.at_, .int .i64 x.kind, .string (bs x.data), .int .i64 x.ticket] 42)
          rw [World.size_alloc] at this
          exact this
        have hz2 : ((w.alloc (.cells #[.int .i64 0, .int .i64 0, .string { data := #[] }, .int .i64 0] 42)).alloc (.cells #[.int .i64 x.at_, .int .i64 x.kind, .string (bs x.data), .int .i64 x.ticket] 42)).heap.size = w.heap.size + 2 := by rw [World.size_alloc, World.size_alloc]
        have HCS := Lib.hid (And.intro hF hb)
        clear hcs hb e1 e2 e3 e4 e5 hn hF hq
        go_enter Try.func26, Try.ntmps26
        go_wp2_with fail
        (with_reducible refine d.mono ?_)
        clear d p0 p1 pf0 pf1 y0 y1 y2 y3
        generalize (w.alloc (.cells #[.int .i64 0, .int .i64 0, .string { data := #[] }, .int .i64 0] 42)).alloc (.cells #[.int .i64 x.at_, .int .i64 x.kind, .string (bs x.data), .int .i64 x.ticket] 42) = w2 at *
        rintro e w3 ⟨rfl, r3, t3⟩
        have hF := HCS.out.1
        have b0 := (t3.block w.heap.size (by omega) (fun h => by have := hF _ h; omega)).trans hq'
        have b1 := (t3.block (w.heap.size + 1) (by omega) (fun h => by have := hF _ h; omega)).trans hx'
        have T3 : Touch F w w3 := (Touch.of_below F hB2).trans t3 (fun k hk => .inl hk)
        have FIN := Lib.hid (r3.own T3 (fun k hk => hk.elim .inl (fun e => .inr (by omega))) hF (it_touch w3 w.heap.size (.int .i64 x.at_) (.int .i64 x.kind) (.string (bs x.data)) (.int .i64 x.ticket)))
        have bq := it_sets (.int .i64 x.at_) (.int .i64 x.kind) (.string (bs x.data)) (.int .i64 x.ticket) b0
        obtain ⟨g0, g1, g2, g3⟩ := four_frozen b0
        obtain ⟨c0, c1, c2, c3⟩ := four_cells b0
        obtain ⟨d0, d1, d2, d3⟩ := four_cells b1
        have z3 := t3.size
        have l0 : w.heap.size < w3.heap.size := by omega
        have l1 : w.heap.size + 1 < w3.heap.size := by omega
        clear r3 t3 T3 hq' hx' hB1 hB2 b0 b1 hF
        go_wp2_with fail
        obtain ⟨q0, q1, q2, q3⟩ := four_cells bq
        exact bodyPost_ret (v := .tuple #[.agg #[.int .i64 x.at_, .int .i64 x.kind, .string (bs x.data), .int .i64 x.ticket], .bool true]) (by simp [results, Try.results26, go_sem, q0, q1, q2, q3]) rfl ⟨rfl, FIN.out⟩
      · have hdi : now < x.at_ := by omega
        have e1 : dueB a now = false := by unfold dueB; rw [hn]; exact decide_eq_false hd
        have e2 : takV a now = itZero := by unfold takV; rw [e1]; rfl
        have e3 : takS a now = a := by unfold takS; rw [e1]; rfl
        rw [e1, e2, e3]
        clear hcs hb e1 e2 e3 hn hF
        go_enter Try.func26, Try.ntmps26
        go_wp2_with fail
        obtain ⟨q0, q1, q2, q3⟩ := four_cells hq
        exact bodyPost_ret (v := .tuple #[.agg #[.int .i64 0, .int .i64 0, .string { data := #[] }, .int .i64 0], .bool false]) (by simp [results, Try.results26, go_sem, q0, q1, q2, q3]) rfl ⟨rfl, HC.out.same (by have : True := trivial; repeat' (first | (with_reducible exact Below.refl _ _) | (with_reducible assumption) | (with_reducible refine below_drewN ?_ _) | (with_reducible refine Below.drew ?_) | (with_reducible refine Below.setCell ?_ ?_ _) | (with_reducible refine Below.alloc ?_ ?_ _) | (simp; done) | (simp; omega) | omega))⟩
end Go.Proofs.Ytcnfidfpgohpoaa.W
