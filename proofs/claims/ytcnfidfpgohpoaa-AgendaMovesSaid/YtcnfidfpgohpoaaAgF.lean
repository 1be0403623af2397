/- The document's own answers of layer 8, walked: Move, Next. -/
import Derived.Test.YtcnfidfpgohpoaaAgE
namespace Go.Proofs.Ytcnfidfpgohpoaa.W
open Go.RowKit Go.Sort
set_option linter.unusedVariables false
set_option linter.unusedSimpArgs false
set_option maxRecDepth 100000 in
set_option maxHeartbeats 12800000 in
theorem rmov_any {F : Nat → Prop} {p : Nat} {a : Ag} (ok : a.Ok) (t at_ : Int) (w : World) (hc : RaIn F w p a) :
    Calls Try.prog 25 #[.pointer (some ⟨p, 0, none⟩), .int .i64 t, .int .i64 at_] w fun e w' => e = .returned (.int .i64 (movE a t at_)) ∧ RaIn (Gr F w w') w' p (movS a t at_) ∧ Touch F w w' := by
  have hr := ok.room
  have d := rpick_any t (by omega) w hc
  have hF := hc.lt
  clear hc
  cases h : hasL t a.l
  · have e1 : movE a t at_ = 3 := by unfold movE; rw [h]; rfl
    have e2 : movS a t at_ = a := by
      unfold movS
      split
      · rfl
      · cases hf : findL t a.l with
        | none => rfl
        | some x =>
          have h1 : x ∈ a.l := List.mem_of_find?_eq_some hf
          have h2 : x.ticket = t := by have := List.find?_some hf; simpa using this
          unfold hasL at h
          rw [List.any_eq_false] at h
          exact absurd h2 (by simpa using h x h1)
    have e3 : canS a t = a := by unfold canS; rw [off_none h]
    rw [e1, e2]
    rw [h, e3] at d
    clear e1 e2 e3
    go_enter Try.func25, Try.ntmps25
    go_wp2_with fail
    refine d.mono ?_
    rintro e w' ⟨rfl, h1, h2⟩
    go_wp2_with fail
    go_ret
    exact ⟨rfl, h1.later h2 (by have : True := trivial; repeat' (first | (with_reducible exact Below.refl _ _) | (with_reducible assumption) | (with_reducible refine below_drewN ?_ _) | (with_reducible refine Below.drew ?_) | (with_reducible refine Below.setCell ?_ ?_ _) | (with_reducible refine Below.alloc ?_ ?_ _) | (simp; done) | (simp; omega) | omega))⟩
  · obtain ⟨x, hf, hx, ht⟩ := find_has h
    have e3 := last_find ok.once hf
    have hlen : (offL t a.l).length ≤ 100000 := Nat.le_trans (off_length t a.l) (by omega)
    by_cases h0 : at_ < 0
    · have e1 : movE a t at_ = 1 := by unfold movE; rw [h, if_pos h0]; rfl
      have e2 : movS a t at_ = ⟨layL x (offL t a.l), a.n⟩ := by
        unfold movS
        rw [if_pos h0, ← ht, lay_back x a.l ok.order ok.once hx]
      rw [e1, e2]
      rw [h, e3] at d
      clear e1 e2 e3 hf
      have HT := Lib.hid ht
      clear ht
      go_enter Try.func25, Try.ntmps25
      go_wp2_with fail
      refine d.mono ?_
      rintro e w' ⟨rfl, h1, h2⟩
      go_wp2_with fail
      obtain ⟨g1, g2⟩ := h1.later h2 (Below.alloc (Below.refl _ _) (Nat.le_refl _) (.cells #[.int .i64 x.at_, .int .i64 x.kind, .string (bs x.data), .int .i64 x.ticket] 42))
      have d5 := rlay_any x hlen _ g1
      refine d5.mono ?_
      rintro e w6 ⟨⟨u, rfl⟩, r6, t6⟩
      have f6 := r6.gr g2 t6 hF
      clear d d5 r6 t6 g1 g2 h1 h2
      go_wp2_with fail
      go_ret
      exact ⟨rfl, f6⟩
    · have e1 : movE a t at_ = 0 := by unfold movE; rw [h, if_neg h0]; rfl
      have e2 : movS a t at_ = ⟨layL ⟨at_, x.kind, x.data, x.ticket⟩ (offL t a.l), a.n⟩ := by
        unfold movS
        rw [if_neg h0, hf]
      rw [e1, e2]
      rw [h, e3] at d
      clear e1 e2 e3 hf
      have HT := Lib.hid ht
      clear ht
      go_enter Try.func25, Try.ntmps25
      go_wp2_with fail
      refine d.mono ?_
      rintro e w' ⟨rfl, h1, h2⟩
      go_wp2_with fail
      obtain ⟨g1, g2⟩ := h1.later h2 (Below.alloc (Below.refl _ _) (Nat.le_refl _) (.cells #[.int .i64 at_, .int .i64 x.kind, .string (bs x.data), .int .i64 x.ticket] 42))
      have d5 := rlay_any ⟨at_, x.kind, x.data, x.ticket⟩ hlen _ g1
      refine d5.mono ?_
      rintro e w6 ⟨⟨u, rfl⟩, r6, t6⟩
      have f6 := r6.gr g2 t6 hF
      clear d d5 r6 t6 g1 g2 h1 h2
      go_wp2_with fail
      go_ret
      exact ⟨rfl, f6⟩
set_option maxRecDepth 100000 in
set_option maxHeartbeats 12800000 in
theorem rnext_any {F : Nat → Prop} {p : Nat} {a : Ag} (hl : a.l.length ≤ 100000) (w : World) (hc : RaIn F w p a) :
    Calls Try.prog 16 #[.pointer (some ⟨p, 0, none⟩)] w fun e w' => e = .returned (.tuple #[.agg #[.int .i64 (nextV a).at_, .int .i64 (nextV a).kind, .string (bs (nextV a).data), .int .i64 (nextV a).ticket], .bool (nextB a)]) ∧ Below w.heap.size w w' := by
  obtain ⟨hp, hF, v, hb, hs⟩ := hc
  obtain ⟨p0, p1, pf0, pf1⟩ := two_cells hb
  have hpl := hF p hp
  have hpn : p ≠ w.heap.size := by omega
  cases hn : a.l with
  | nil =>
    have e1 : nextV a = itZero := by unfold nextV; rw [hn]; rfl
    have e2 : nextB a = false := by unfold nextB; rw [hn]; rfl
    rw [e1, e2]
    obtain ⟨vx, vc, rfl⟩ := hs.slice
    rw [hn] at p0
    clear hs hb e1 e2
    go_enter Try.func16, Try.ntmps16
    go_wp2_with fail
    have hq := heap_alloc_new w (.cells #[.int .i64 0, .int .i64 0, .string { data := #[] }, .int .i64 0] 42)
    obtain ⟨q0, q1, q2, q3⟩ := four_cells hq
    exact bodyPost_ret (v := .tuple #[.agg #[.int .i64 0, .int .i64 0, .string { data := #[] }, .int .i64 0], .bool false]) (by simp [results, Try.results16, go_sem, q0, q1, q2, q3]) rfl ⟨rfl, by have : True := trivial; repeat' (first | (with_reducible exact Below.refl _ _) | (with_reducible assumption) | (with_reducible refine below_drewN ?_ _) | (with_reducible refine Below.drew ?_) | (with_reducible refine Below.setCell ?_ ?_ _) | (with_reducible refine Below.alloc ?_ ?_ _) | (simp; done) | (simp; omega) | omega)⟩
  | cons x l =>
    have e1 : nextV a = x := by unfold nextV; rw [hn]; rfl
    have e2 : nextB a = true := by unfold nextB; rw [hn]; rfl
    rw [e1, e2]
    rcases hs with ⟨_, _, _, _, hnil⟩ | ⟨b, off, cap, rfl, hbF, hcs⟩
    · rw [hn] at hnil
      cases hnil
    · obtain ⟨y0, y1, y2, y3⟩ := it_at (F := F) (w := w) rfl (hcs 0 x (by rw [hn]; rfl))
      rw [Nat.zero_mul, Nat.add_zero] at y0 y1 y2 y3
      have hlt := (Array.getElem?_eq_some_iff.1 hb).1
      have hblt := hF b hbF.1
      have i1 : (0 : Int) < (a.l.length : Int) := by rw [hn]; simp
      clear hcs hb e1 e2 hn
      go_enter Try.func16, Try.ntmps16
      go_wp2_with fail
      have hq := heap_alloc_new w (.cells #[.int .i64 x.at_, .int .i64 x.kind, .string (bs x.data), .int .i64 x.ticket] 42)
      obtain ⟨q0, q1, q2, q3⟩ := four_cells hq
      exact bodyPost_ret (v := .tuple #[.agg #[.int .i64 x.at_, .int .i64 x.kind, .string (bs x.data), .int .i64 x.ticket], .bool true]) (by simp [results, Try.results16, go_sem, q0, q1, q2, q3]) rfl ⟨rfl, by have : True := trivial; repeat' (first | (with_reducible exact Below.refl _ _) | (with_reducible assumption) | (with_reducible refine below_drewN ?_ _) | (with_reducible refine Below.drew ?_) | (with_reducible refine Below.setCell ?_ ?_ _) | (with_reducible refine Below.alloc ?_ ?_ _) | (simp; done) | (simp; omega) | omega)⟩
end Go.Proofs.Ytcnfidfpgohpoaa.W
