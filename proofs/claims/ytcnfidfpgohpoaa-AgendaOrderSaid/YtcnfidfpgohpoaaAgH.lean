/- The document's own answers of layer 8, walked: Double. -/
import Derived.Test.YtcnfidfpgohpoaaAgG
import Derived.RegionTactic
import Derived.Deep.RegionWith
namespace Go.Proofs.Ytcnfidfpgohpoaa.W
open Go.RowKit Go.Sort
set_option linter.unusedVariables false
set_option linter.unusedSimpArgs false
theorem find_next (t : Int) (l : List It) (k : Nat) (y : It) (h : l[k]? = some y) (h0 : findL t (l.take k) = none) : findL t (l.take (k + 1)) = if y.ticket = t then some y else none := by
  unfold findL at *
  rw [take_next l k y h, List.find?_append, h0]
  by_cases e : y.ticket = t <;> simp [e]
theorem find_here (t : Int) (l : List It) (k : Nat) (y : It) (h : l[k]? = some y) (h0 : findL t (l.take k) = none) (e : y.ticket = t) : findL t l = some y := by
  have h1 := find_next t l k y h h0
  rw [if_pos e] at h1
  unfold findL at *
  rw [← List.take_append_drop (k + 1) l, List.find?_append, h1]
  rfl
theorem RaIn.drew {F : Nat → Prop} {w w6 : World} {p : Nat} {a : Ag} (h : RaIn (Gr F w.drew w6) w6 p a ∧ Touch F w.drew w6) : RaIn (Gr F w w6) w6 p a ∧ Touch F w w6 :=
  ⟨h.1, ⟨h.2.os, h.2.tape, h.2.output, h.2.size, h.2.block⟩⟩
set_option maxRecDepth 100000 in
set_option maxHeartbeats 12800000 in
theorem rdbl_any {F : Nat → Prop} {p : Nat} {a : Ag} (ok : a.Ok) (n1 : a.n ≤ 1000000) (t at_ : Int) (w : World) (hc : RaIn F w p a) :
    Calls Try.prog 27 #[.pointer (some ⟨p, 0, none⟩), .int .i64 t, .int .i64 at_] w fun e w' => e = .returned (.tuple #[.int .i64 (dblN a t at_), .int .i64 (dblE a t at_)]) ∧ RaIn (Gr F w w') w' p (dblS a t at_) ∧ Touch F w w' := by
  have hr := ok.room
  have HC := Lib.hid hc
  have OK := Lib.hid ok
  obtain ⟨hp, hF, v, hb, hs⟩ := hc
  obtain ⟨p0, p1, pf0, pf1⟩ := two_cells hb
  have hpl := hF p hp
  obtain ⟨vx, vc, rfl⟩ := hs.slice
  have HS := Lib.hid (And.intro hs hF)
  clear hs hb hF ok
  go_enter Try.func27, Try.ntmps27
  go_wp2_with fail
  go_loopw [8] (fun i wr => ∃ k : Nat, k ≤ a.l.length ∧ i = .int .i64 k ∧ findL t (a.l.take k) = none ∧ wr = w) (fun i _ => a.l.length - (intOf i).toNat)
  case atStart => exact ⟨0, Nat.zero_le _, rfl, rfl, rfl⟩
  case round =>
    obtain ⟨k, hk, rfl, hfn, rfl⟩ := hrel
    by_cases hlt : k < a.l.length
    · obtain ⟨y, hy, hym⟩ := at_index a.l k hlt
      rcases HS.out.1 with ⟨_, _, _, _, hnil⟩ | ⟨b, off, cap, hv, hbF, hcs⟩
      · rw [hnil] at hlt
        simp at hlt
      · simp only [Value.slice.injEq] at hv
        obtain ⟨rfl, _, rfl⟩ := hv
        obtain ⟨y0, y1, y2, y3⟩ := it_at (F := F) (w := wr) rfl (hcs k y hy)
        have hblt := HS.out.2 b hbF.1
        have i0 : (0 : Int) ≤ (k : Int) := by omega
        have i1 : (k : Int) < (a.l.length : Int) := by omega
        have hg := OK.out.given y hym
        by_cases ht : y.ticket = t
        · have hf := find_here t a.l k y hy hfn ht
          have e1 : dblE a t at_ = putE a at_ y.kind y.data := by unfold dblE; rw [hf]
          have e2 : dblS a t at_ = putS a at_ y.kind y.data := by unfold dblS; rw [hf]
          have e3 : dblN a t at_ = putN a at_ y.kind y.data := by unfold dblN; rw [hf]
          have d := rput_any at_ y.kind y.data (by omega) OK.out.n n1 wr.drew HC.out
          rw [← e1, ← e2, ← e3] at d
          subst ht
          clear hcs hfn hf e1 e2 e3 hy hg
          go_wp2_with fail
          go_region_with (go_at_call 23; refine d.mono ?_; rintro e w6 ⟨rfl, r6⟩; have R6 := Lib.hid (RaIn.drew r6); clear r6)
          all_goals (go_wp2_with fail; exact bodyPost_ret (v := .tuple #[.int .i64 (dblN a y.ticket at_), .int .i64 (dblE a y.ticket at_)]) (by simp [results, Try.results27, go_sem]) rfl ⟨rfl, R6.out⟩)
        · have hfx := find_next t a.l k y hy hfn
          rw [if_neg ht] at hfx
          clear hcs hfn hy
          go_wp2_with fail
          go_roundw
          case rel => exact ⟨k + 1, by omega, by go_num, hfx, by first | exact rfl | trivial⟩
          case measure => simp [intOf]; omega
    · obtain rfl : k = a.l.length := by omega
      rw [List.take_length] at hfn
      have e1 : dblE a t at_ = 3 := by unfold dblE; rw [hfn]
      have e2 : dblS a t at_ = a := by unfold dblS; rw [hfn]
      have e3 : dblN a t at_ = 0 := by unfold dblN; rw [hfn]
      have E := Lib.hid (And.intro e1 (And.intro e2 e3))
      clear e1 e2 e3 hfn
      go_wp2_with fail
      refine bodyPost_ret (v := .tuple #[.int .i64 0, .int .i64 3]) (by simp [results, Try.results27, go_sem]) rfl ?_
      rw [E.out.1, E.out.2.1, E.out.2.2]
      exact ⟨rfl, HC.out.same (Below.refl _ _)⟩
end Go.Proofs.Ytcnfidfpgohpoaa.W
