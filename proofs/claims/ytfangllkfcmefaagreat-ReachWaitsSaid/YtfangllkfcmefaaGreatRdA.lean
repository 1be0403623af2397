/- Layer 11's own code, walked: exponents held, one more of them, what is due, how many were answered. -/
import Derived.Test.YtfangllkfcmefaaGreatRcA
import Derived.Test.YtfangllkfcmefaaGreatStX
import Derived.Test.YtfangllkfcmefaaGreatFixB
import Derived.Test.YtfangllkfcmefaaGreatFixD
import Derived.Test.YtfangllkfcmefaaGreatQtB
import Derived.Test.YtfangllkfcmefaaGreatChecked
import Derived.WalkKit
import Derived.WalkSpells
import Derived.Lib.Hide
import Derived.Handy
namespace Go.Proofs.YtfangllkfcmefaaGreat.W
open Go.RowKit Go.Sort
set_option linter.unusedVariables false
set_option linter.unusedSimpArgs false
abbrev pmC (p : Pm) : Array Value := #[.int .i64 p.step, .int .i64 p.watch, .int .i64 p.panic, .int .i64 p.maxrate, .int .i64 p.phi, .int .i64 p.maxdist, .int .i64 p.gate, .int .i64 p.minpoll, .int .i64 p.maxpoll, .int .i64 p.burst, .int .i64 p.minsane, .int .i64 p.minleft]
abbrev rsC (s : Rs) : Array Value := #[.int .u8 s.reg, .int .i64 s.host, .int .i64 s.peer, .int .i64 s.burst, .int .i64 s.next]
set_option maxRecDepth 100000 in
set_option maxHeartbeats 3200000 in
theorem gheld_any (p : Pm) (n : Int) (w : World) : Calls Tryz.prog 35 #[p.val, .int .i64 n] w fun e w' => e = .returned (.int .i64 (heldI p n)) ∧ Below w.heap.size w w' := by
  unfold Pm.val heldI
  rcases Int.lt_trichotomy n p.minpoll with h | h | h
  · rw [if_pos h]
    go_enter Tryz.func35, Tryz.ntmps35
    go_wp2_with fail
    go_ret
    exact ⟨rfl, by repeat' (first | (with_reducible exact Below.refl _ _) | (with_reducible assumption) | (with_reducible refine below_drewN ?_ _) | (with_reducible refine Below.drew ?_) | (with_reducible refine Below.setCell ?_ ?_ _) | (with_reducible refine Below.alloc ?_ ?_ _) | (simp; done) | (simp; omega) | omega)⟩
  all_goals
    rw [if_neg (by omega)]
    have h' : ¬ n < p.minpoll := by omega
    clear h
    rcases Int.lt_trichotomy n p.maxpoll with g | g | g
    · rw [if_neg (by omega)]
      go_enter Tryz.func35, Tryz.ntmps35
      go_wp2_with fail
      go_ret
      exact ⟨rfl, by repeat' (first | (with_reducible exact Below.refl _ _) | (with_reducible assumption) | (with_reducible refine below_drewN ?_ _) | (with_reducible refine Below.drew ?_) | (with_reducible refine Below.setCell ?_ ?_ _) | (with_reducible refine Below.alloc ?_ ?_ _) | (simp; done) | (simp; omega) | omega)⟩
    · rw [if_neg (by omega)]
      rw [← g]
      clear g
      go_enter Tryz.func35, Tryz.ntmps35
      go_wp2_with fail
      go_ret
      exact ⟨rfl, by repeat' (first | (with_reducible exact Below.refl _ _) | (with_reducible assumption) | (with_reducible refine below_drewN ?_ _) | (with_reducible refine Below.drew ?_) | (with_reducible refine Below.setCell ?_ ?_ _) | (with_reducible refine Below.alloc ?_ ?_ _) | (simp; done) | (simp; omega) | omega)⟩
    · rw [if_pos g]
      go_enter Tryz.func35, Tryz.ntmps35
      go_wp2_with fail
      go_ret
      exact ⟨rfl, by repeat' (first | (with_reducible exact Below.refl _ _) | (with_reducible assumption) | (with_reducible refine below_drewN ?_ _) | (with_reducible refine Below.drew ?_) | (with_reducible refine Below.setCell ?_ ?_ _) | (with_reducible refine Below.alloc ?_ ?_ _) | (simp; done) | (simp; omega) | omega)⟩
theorem gmore_any (n : Int) (h0 : -9223372036854775808 ≤ n) (h1 : n ≤ 9223372036854775807) (w : World) : Calls Tryz.prog 28 #[.int .i64 n] w fun e w' => e = .returned (.int .i64 (moreI n)) ∧ w = w' := by
  unfold moreI
  by_cases h : 1099511627776 ≤ n
  · rw [if_pos h]
    go_enter Tryz.func28, Tryz.ntmps28
    go_wp2_with fail
    go_ret
    exact ⟨rfl, rfl⟩
  · rw [if_neg h]
    have h' : n < 1099511627776 := by omega
    go_enter Tryz.func28, Tryz.ntmps28
    go_wp2_with fail
    go_ret
    exact ⟨rfl, rfl⟩
set_option maxRecDepth 100000 in
theorem gdue_any (s : Rs) (now : Int) (w : World) : Calls Tryz.prog 19 #[s.val, .int .i64 now] w fun e w' => e = .returned (.bool (decide (s.next ≤ now))) ∧ Below w.heap.size w w' := by
  unfold Rs.val
  go_enter Tryz.func19, Tryz.ntmps19
  go_wp2_with fail
  go_ret
  exact ⟨rfl, by repeat' (first | (with_reducible exact Below.refl _ _) | (with_reducible assumption) | (with_reducible refine below_drewN ?_ _) | (with_reducible refine Below.drew ?_) | (with_reducible refine Below.setCell ?_ ?_ _) | (with_reducible refine Below.alloc ?_ ?_ _) | (simp; done) | (simp; omega) | omega)⟩
set_option maxRecDepth 100000 in
set_option maxHeartbeats 3200000 in
theorem gpoll_any (p : Pm) (s : Rs) (w : World) : Calls Tryz.prog 20 #[p.val, s.val] w fun e w' => e = .returned (.int .i64 (pollS p s)) ∧ Below w.heap.size w w' := by
  unfold pollS
  obtain ⟨rg, ho, pe, bu, nx⟩ := s
  have hA : Below w.heap.size w ((w.alloc (.cells (pmC p) 24)).alloc (.cells #[.int .u8 rg, .int .i64 ho, .int .i64 pe, .int .i64 bu, .int .i64 nx] 27)) := ((Below.refl _ _).alloc (Nat.le_refl _) _).alloc (by simp) _
  have h0 : ((w.alloc (.cells (pmC p) 24)).alloc (.cells #[.int .u8 rg, .int .i64 ho, .int .i64 pe, .int .i64 bu, .int .i64 nx] 27)).heap[w.heap.size]? = some (.cells (pmC p) 24 (0, 0)) := laid _ (heap_alloc_new w _)
  have c := gheld_any p
  unfold Pm.val Rs.val at *
  dsimp only at *
  rcases Int.lt_trichotomy ho pe with g | rfl | g
  · rw [show min ho pe = ho by omega]
    have c := c ho
    generalize heldI p ho = r at *
    go_enter Tryz.func20, Tryz.ntmps20
    go_wp2_with fail
    (with_reducible refine (c _).mono ?_)
    rintro e w1 ⟨rfl, hb⟩
    go_wp2_with fail
    go_ret
    exact ⟨rfl, hA.trans (hb.mono hA.size)⟩
  · rw [show min ho ho = ho by omega]
    have c := c ho
    generalize heldI p ho = r at *
    go_enter Tryz.func20, Tryz.ntmps20
    go_wp2_with fail
    (with_reducible refine (c _).mono ?_)
    rintro e w1 ⟨rfl, hb⟩
    go_wp2_with fail
    go_ret
    exact ⟨rfl, hA.trans (hb.mono hA.size)⟩
  · rw [show min ho pe = pe by omega]
    have c := c pe
    generalize heldI p pe = r at *
    go_enter Tryz.func20, Tryz.ntmps20
    go_wp2_with fail
    (with_reducible refine (c _).mono ?_)
    rintro e w1 ⟨rfl, hb⟩
    go_wp2_with fail
    go_ret
    exact ⟨rfl, hA.trans (hb.mono hA.size)⟩
end Go.Proofs.YtfangllkfcmefaaGreat.W
