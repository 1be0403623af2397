/- The document's own answers of layer 8, walked: Cancel, Move, Put. -/
import Derived.Test.YtcnfidfpgohpoaaAgD
namespace Go.Proofs.Ytcnfidfpgohpoaa.W
open Go.RowKit Go.Sort
set_option linter.unusedVariables false
set_option linter.unusedSimpArgs false
theorem RaIn.gr {F : Nat → Prop} {w w' w'' : World} {p : Nat} {a : Ag} (h : RaIn (Gr (Gr F w w') w' w'') w'' p a) (t : Touch F w w') (t' : Touch (Gr F w w') w' w'') (hF : ∀ k, F k → k < w.heap.size) : RaIn (Gr F w w'') w'' p a ∧ Touch F w w'' :=
  ⟨h.mono (fun k hk => by
    rcases hk with (hk | hk) | hk
    · exact .inl hk
    · exact .inr ⟨hk.1, Nat.lt_of_lt_of_le hk.2 t'.size⟩
    · exact .inr ⟨Nat.le_trans t.size hk.1, hk.2⟩) (gr_lt hF (Nat.le_trans t.size t'.size)), t.trans t' (fun k hk => hk.elim .inl (fun e => .inr e.1))⟩
theorem RaIn.later {F : Nat → Prop} {w w' w'' : World} {p : Nat} {a : Ag} (h : RaIn (Gr F w w') w' p a) (t : Touch F w w') (b : Below w'.heap.size w' w'') : RaIn (Gr F w w'') w'' p a ∧ Touch F w w'' := by
  have z := b.size
  refine ⟨(h.below b).mono (fun k hk => ?_) (fun k hk => ?_), t.trans (Touch.of_below (fun _ => False) b) (fun _ e => e.elim)⟩
  · exact hk.elim .inl (fun e => .inr ⟨e.1, by omega⟩)
  · rcases hk with hk | hk
    · have := h.lt k (.inl hk)
      omega
    · exact hk.2
theorem RaIn.same {F : Nat → Prop} {w w' : World} {p : Nat} {a : Ag} (h : RaIn F w p a) (b : Below w.heap.size w w') : RaIn (Gr F w w') w' p a ∧ Touch F w w' :=
  ⟨(h.below b).mono (fun k hk => .inl hk) (gr_lt h.lt b.size), Touch.of_below F b⟩
set_option maxRecDepth 100000 in
set_option maxHeartbeats 12800000 in
theorem rcan_any {F : Nat → Prop} {p : Nat} {a : Ag} (t : Int) (hl : a.l.length ≤ 100000) (w : World) (hc : RaIn F w p a) :
    Calls Try.prog 24 #[.pointer (some ⟨p, 0, none⟩), .int .i64 t] w fun e w' => e = .returned (.int .i64 (canE a t)) ∧ RaIn (Gr F w w') w' p (canS a t) ∧ Touch F w w' := by
  have d := rpick_any t hl w hc
  clear hc
  cases h : hasL t a.l
  · have e1 : canE a t = 3 := by unfold canE; rw [h]; rfl
    rw [e1]
    rw [h] at d
    go_enter Try.func24, Try.ntmps24
    go_wp2_with fail
    refine d.mono ?_
    rintro e w' ⟨rfl, h1, h2⟩
    go_wp2_with fail
    go_ret
    exact ⟨rfl, h1.later h2 (by have : True := trivial; repeat' (first | (with_reducible exact Below.refl _ _) | (with_reducible assumption) | (with_reducible refine below_drewN ?_ _) | (with_reducible refine Below.drew ?_) | (with_reducible refine Below.setCell ?_ ?_ _) | (with_reducible refine Below.alloc ?_ ?_ _) | (simp; done) | (simp; omega) | omega))⟩
  · have e1 : canE a t = 0 := by unfold canE; rw [h]; rfl
    rw [e1]
    rw [h] at d
    go_enter Try.func24, Try.ntmps24
    go_wp2_with fail
    refine d.mono ?_
    rintro e w' ⟨rfl, h1, h2⟩
    go_wp2_with fail
    go_ret
    exact ⟨rfl, h1.later h2 (by have : True := trivial; repeat' (first | (with_reducible exact Below.refl _ _) | (with_reducible assumption) | (with_reducible refine below_drewN ?_ _) | (with_reducible refine Below.drew ?_) | (with_reducible refine Below.setCell ?_ ?_ _) | (with_reducible refine Below.alloc ?_ ?_ _) | (simp; done) | (simp; omega) | omega))⟩
set_option maxRecDepth 100000 in
set_option maxHeartbeats 12800000 in
theorem rput_any {F : Nat → Prop} {p : Nat} {a : Ag} (at_ kind : Int) (data : List UInt8) (hl : a.l.length ≤ 100000) (n0 : 0 ≤ a.n) (n1 : a.n ≤ 1000000) (w : World) (hc : RaIn F w p a) :
    Calls Try.prog 23 #[.pointer (some ⟨p, 0, none⟩), .int .i64 at_, .int .i64 kind, .string (bs data)] w fun e w' => e = .returned (.tuple #[.int .i64 (putN a at_ kind data), .int .i64 (putE a at_ kind data)]) ∧ RaIn (Gr F w w') w' p (putS a at_ kind data) ∧ Touch F w w' := by
  have hz : (bs data).size = data.length := by show data.toArray.size = _; simp
  by_cases h : at_ < 0 ∨ kind < 0 ∨ 255 < kind ∨ 2000 < data.length
  · have e1 : putE a at_ kind data = 1 := by unfold putE; rw [if_pos h]
    have e2 : putS a at_ kind data = a := by unfold putS; rw [e1]; rfl
    have e3 : putN a at_ kind data = 0 := by unfold putN; rw [e1]; rfl
    rw [e1, e2, e3]
    clear e1 e2 e3
    by_cases h1 : at_ < 0
    · go_enter Try.func23, Try.ntmps23
      go_wp2_with fail
      exact bodyPost_ret (v := .tuple #[.int .i64 0, .int .i64 1]) (by simp [results, Try.results23, go_sem]) rfl ⟨rfl, hc.same (by have : True := trivial; repeat' (first | (with_reducible exact Below.refl _ _) | (with_reducible assumption) | (with_reducible refine below_drewN ?_ _) | (with_reducible refine Below.drew ?_) | (with_reducible refine Below.setCell ?_ ?_ _) | (with_reducible refine Below.alloc ?_ ?_ _) | (simp; done) | (simp; omega) | omega))⟩
    · by_cases h2 : kind < 0
      · go_enter Try.func23, Try.ntmps23
        go_wp2_with fail
        exact bodyPost_ret (v := .tuple #[.int .i64 0, .int .i64 1]) (by simp [results, Try.results23, go_sem]) rfl ⟨rfl, hc.same (by have : True := trivial; repeat' (first | (with_reducible exact Below.refl _ _) | (with_reducible assumption) | (with_reducible refine below_drewN ?_ _) | (with_reducible refine Below.drew ?_) | (with_reducible refine Below.setCell ?_ ?_ _) | (with_reducible refine Below.alloc ?_ ?_ _) | (simp; done) | (simp; omega) | omega))⟩
      · by_cases h3 : 255 < kind
        · go_enter Try.func23, Try.ntmps23
          go_wp2_with fail
          exact bodyPost_ret (v := .tuple #[.int .i64 0, .int .i64 1]) (by simp [results, Try.results23, go_sem]) rfl ⟨rfl, hc.same (by have : True := trivial; repeat' (first | (with_reducible exact Below.refl _ _) | (with_reducible assumption) | (with_reducible refine below_drewN ?_ _) | (with_reducible refine Below.drew ?_) | (with_reducible refine Below.setCell ?_ ?_ _) | (with_reducible refine Below.alloc ?_ ?_ _) | (simp; done) | (simp; omega) | omega))⟩
        · have h4 : (2000 : Int) < (data.length : Int) := by omega
          rw [← hz] at h4
          go_enter Try.func23, Try.ntmps23
          go_wp2_with fail
          exact bodyPost_ret (v := .tuple #[.int .i64 0, .int .i64 1]) (by simp [results, Try.results23, go_sem]) rfl ⟨rfl, hc.same (by have : True := trivial; repeat' (first | (with_reducible exact Below.refl _ _) | (with_reducible assumption) | (with_reducible refine below_drewN ?_ _) | (with_reducible refine Below.drew ?_) | (with_reducible refine Below.setCell ?_ ?_ _) | (with_reducible refine Below.alloc ?_ ?_ _) | (simp; done) | (simp; omega) | omega))⟩
  · have h1 : ¬ at_ < 0 := by omega
    have h2 : ¬ kind < 0 := by omega
    have h3 : ¬ 255 < kind := by omega
    have h4 : ¬ (2000 : Int) < (data.length : Int) := by omega
    rw [← hz] at h4
    have HC := Lib.hid hc
    obtain ⟨hp, hF, v, hb, hs⟩ := hc
    obtain ⟨p0, p1, pf0, pf1⟩ := two_cells hb
    obtain ⟨vx, vc, rfl⟩ := hs.slice
    by_cases h5 : 1000 ≤ a.l.length
    · have e1 : putE a at_ kind data = 2 := by unfold putE; rw [if_neg h, if_pos h5]
      have e2 : putS a at_ kind data = a := by unfold putS; rw [e1]; rfl
      have e3 : putN a at_ kind data = 0 := by unfold putN; rw [e1]; rfl
      rw [e1, e2, e3]
      have h5i : (1000 : Int) ≤ (a.l.length : Int) := by omega
      clear e1 e2 e3 hb hs h h5
      go_enter Try.func23, Try.ntmps23
      go_wp2_with fail
      exact bodyPost_ret (v := .tuple #[.int .i64 0, .int .i64 2]) (by simp [results, Try.results23, go_sem]) rfl ⟨rfl, HC.out.same (by have : True := trivial; repeat' (first | (with_reducible exact Below.refl _ _) | (with_reducible assumption) | (with_reducible refine below_drewN ?_ _) | (with_reducible refine Below.drew ?_) | (with_reducible refine Below.setCell ?_ ?_ _) | (with_reducible refine Below.alloc ?_ ?_ _) | (simp; done) | (simp; omega) | omega))⟩
    · have e1 : putE a at_ kind data = 0 := by unfold putE; rw [if_neg h, if_neg h5]
      have e2 : putS a at_ kind data = ⟨layL ⟨at_, kind, data, a.n + 1⟩ a.l, a.n + 1⟩ := by unfold putS; rw [if_pos e1]
      have e3 : putN a at_ kind data = a.n + 1 := by unfold putN; rw [if_pos e1]
      rw [e1, e2, e3]
      have h5i : ¬ (1000 : Int) ≤ (a.l.length : Int) := by omega
      clear e1 e2 e3 h h5
      have b5 := block_set 1 (.int .i64 (a.n + 1)) hb
      have hc5 : RaIn F (w.setCell ⟨p, 1, none⟩ (.int .i64 (a.n + 1))) p ⟨a.l, a.n + 1⟩ := ⟨hp, fun k hk => by rw [set_size]; exact hF k hk, _, b5, hs.kept (fun k hk => block_far _ _ hk.2)⟩
      have t5 : Touch F w (w.setCell ⟨p, 1, none⟩ (.int .i64 (a.n + 1))) := (Touch.refl F w).setCell (p := ⟨p, 1, none⟩) (.inl hp) _
      have d := rlay_any ⟨at_, kind, data, a.n + 1⟩ (a := ⟨a.l, a.n + 1⟩) hl _ hc5
      have s5 := set_size w ⟨p, 1, none⟩ (.int .i64 (a.n + 1))
      clear hc5 b5 hb hs
      go_enter Try.func23, Try.ntmps23
      go_wp2_with fail
      refine d.mono ?_
      clear d p0 p1 pf0 pf1
      generalize w.setCell ⟨p, 1, none⟩ (.int .i64 (a.n + 1)) = w5 at *
      rintro e w6 ⟨⟨u, rfl⟩, r6, t6⟩
      have f6 : RaIn (Gr F w w6) w6 p ⟨layL ⟨at_, kind, data, a.n + 1⟩ a.l, a.n + 1⟩ ∧ Touch F w w6 :=
        ⟨r6.mono (fun k hk => hk.elim .inl (fun e => .inr ⟨by omega, e.2⟩)) (gr_lt hF (by have := t6.size; omega)), t5.trans t6 (fun k hk => .inl hk)⟩
      have F6 := Lib.hid f6
      obtain ⟨⟨_, _, v6, hb6, hs6⟩, _⟩ := f6
      obtain ⟨p0, p1, pf0, pf1⟩ := two_cells hb6
      clear hb6 hs6 r6 t6 t5
      go_wp2_with fail
      exact bodyPost_ret (v := .tuple #[.int .i64 (a.n + 1), .int .i64 0]) (by simp [results, Try.results23, go_sem]) rfl ⟨rfl, F6.out⟩
end Go.Proofs.Ytcnfidfpgohpoaa.W
