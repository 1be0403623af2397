/- Layer 11's own code, walked: what becomes of a state behind a question; how it begins; how many were answered. (Written by wip/genRdF.py.) -/
import Derived.Test.YtfangllkfcmefaaGreatRdE
namespace Go.Proofs.YtfangllkfcmefaaGreat.W
open Go.RowKit Go.Sort
set_option linter.unusedVariables false
set_option linter.unusedSimpArgs false
theorem shift_typed (a n : Int) : -9223372036854775808 ≤ shiftI a n ∧ shiftI a n ≤ 9223372036854775807 := by
  unfold shiftI
  split
  · have := cutI_range (a / 2 ^ (min (-n) 1000).toNat)
    omega
  · have := cutI_range (a * 2 ^ (min n 1000).toNat)
    omega
set_option maxHeartbeats 800000 in
theorem gpow_any (n : Int) (hn : -9223372036854775808 ≤ n) (hn' : n ≤ 9223372036854775807) (w : World) :
    Calls Tryz.prog 30 #[.int .i64 n] w fun e w' => e = .returned (.int .i64 (shiftI 4294967296 n)) ∧ w = w' := by
  have hc := shift_any 4294967296 n (by decide) (by decide) hn hn'
  go_enter Tryz.func30, Tryz.ntmps30
  go_wp2_with fail
  (with_reducible refine (hc _).mono ?_)
  rintro e w1 ⟨rfl, rfl⟩
  go_wp2_with fail
  go_ret
  exact ⟨rfl, rfl⟩
set_option maxRecDepth 100000 in
set_option maxHeartbeats 6400000 in
theorem gwait1 (p : Pm) (t : p.Typed) (s : Rs) (st : s.Typed) (now draw : Int) (n0 : -9223372036854775808 ≤ now) (n1 : now ≤ 9223372036854775807) (d0 : 0 ≤ draw) (d1 : draw < 4294967296) (bp bn bd : Nat) (w : World) (hp : w.heap[bp]? = some (.cells (pmC p) 24 (0, 0))) (hn : w.heap[bn]? = some (.cells #[.int .i64 now] 2 (0, 0))) (hd : w.heap[bd]? = some (.cells #[.int .u32 draw] 22 (0, 0))) :
    Calls Tryz.prog 29 #[s.val, .pointer (some ⟨bp, 0, none⟩), .pointer (some ⟨bn, 0, none⟩), .pointer (some ⟨bd, 0, none⟩)] w fun e w' => e = .returned (Rs.mk s.reg s.host s.peer s.burst (waitS now draw (pollS p s))).val ∧ Below w.heap.size w w' := by
  have hA : Below w.heap.size w ((w.alloc (.cells (rsC s) 27)).alloc (.cells rsZ 27)) := (((Below.refl _ _).alloc (Nat.le_refl _) _).alloc (by simp) _)
  have zs0 : ((w.alloc (.cells (rsC s) 27)).alloc (.cells rsZ 27)).heap[w.heap.size]? = some (.cells (rsC s) 27 (0, 0)) := (laid _ (heap_alloc_new w _))
  have zr0 : ((w.alloc (.cells (rsC s) 27)).alloc (.cells rsZ 27)).heap[w.heap.size + 1]? = some (.cells rsZ 27 (0, 0)) := (by have := heap_alloc_new (w.alloc (.cells (rsC s) 27)) (.cells rsZ 27); simpa [World.size_alloc] using this)
  have zp : ((w.alloc (.cells (rsC s) 27)).alloc (.cells rsZ 27)).heap[bp]? = some (.cells (pmC p) 24 (0, 0)) := laid _ (laid _ hp)
  have zn0 : ((w.alloc (.cells (rsC s) 27)).alloc (.cells rsZ 27)).heap[bn]? = some (.cells #[.int .i64 now] 2 (0, 0)) := laid _ (laid _ hn)
  have zd0 : ((w.alloc (.cells (rsC s) 27)).alloc (.cells rsZ 27)).heap[bd]? = some (.cells #[.int .u32 draw] 22 (0, 0)) := laid _ (laid _ hd)
  have lbn := (Array.getElem?_eq_some_iff.1 hn).1
  have lbd := (Array.getElem?_eq_some_iff.1 hd).1
  have cpl := gpoll_any p s
  have hst := st.host
  have hst' := st.peer
  obtain ⟨q0, q1⟩ := held_typed t (n := min s.host s.peer) (by omega)
  have hw : waitS now draw (pollS p s) = addI (addI now (shiftI 4294967296 (pollS p s))) (shiftI draw (max (pollS p s) (-1099511627776) - 4)) := rfl
  rw [hw]
  change -9223372036854775808 ≤ pollS p s at q0
  change pollS p s ≤ 9223372036854775807 at q1
  have cw := gpow_any (pollS p s) q0 q1
  have csp := gspread_any draw (pollS p s) d0 d1 q0 q1
  obtain ⟨x, hx⟩ : ∃ x, shiftI 4294967296 (pollS p s) = x := ⟨_, rfl⟩
  obtain ⟨y, hy⟩ : ∃ y, shiftI draw (max (pollS p s) (-1099511627776) - 4) = y := ⟨_, rfl⟩
  have hxr := shift_typed 4294967296 (pollS p s)
  have hyr := shift_typed draw (max (pollS p s) (-1099511627776) - 4)
  rw [hx] at cw hxr
  rw [hy] at csp hyr
  rw [hx, hy]
  have m1 := makes_pausing2 s now x y n0 n1 hxr.1 hxr.2 hyr.1 hyr.2
  have cpa := gpausing now
  clear hw hx hy hxr hyr hst hst' hp hn hd
  generalize pollS p s = pl at *
  generalize addI (addI now x) y = r at *
  have c2 := fun (b cap : Nat) (w1 : World) (b1 b2 b3 cap2 : Nat) (hb : w1.heap[b]? = some (.cells #[.func (.func 24) #[] #[.pointer (some ⟨b1, 0, none⟩), .pointer (some ⟨b2, 0, none⟩)]] 41 (0, 0))) (h1 : w1.heap[b1]? = some (.cells #[.int .i64 now] 2 (0, 0))) (h2 : w1.heap[b2]? = some (.cells #[.slice (some ⟨b3, 0, none⟩) 2 cap2] 61 (0, 0))) (h3 : w1.heap[b3]? = some (.cells #[.int .i64 x, .int .i64 y] 2 (0, 0))) => gbehind1 s _ _ _ b cap w1 hb (m1 b1 b2 b3 cap2 w1 h1 h2 h3)
  clear m1
  have HA := Lib.hid (And.intro hA (And.intro zs0 (And.intro zr0 (And.intro zn0 zd0))))
  obtain ⟨a0, a1, a2, a3, a4⟩ := five_in zs0
  clear hA zr0 zn0 zd0
  unfold Pm.val Rs.val at *
  dsimp only at *
  go_enter Tryz.func29, Tryz.ntmps29
  go_upto_region 1 with fail
  generalize ((w.alloc (.cells (rsC s) 27)).alloc (.cells rsZ 27)) = w2 at *
  go_wp2_with (refine at_load_pm10 rfl _ rfl _ rfl zp rfl ?_)
  (with_reducible refine (cpl _).mono ?_)
  rintro e w1 ⟨rfl, hB⟩
  have hA := HA.out.1.trans (hB.mono HA.out.1.size)
  have zs := kept HA.out.2.1 hB
  have zr := kept HA.out.2.2.1 hB
  have zn := kept HA.out.2.2.2.1 hB
  have zd := kept HA.out.2.2.2.2 hB
  clear hB a0 a1 a2 a3 a4 zp
  go_upto_region 2 with fail
  have zs' : w1.drew.heap[w.heap.size]? = some (.cells (rsC s) 27 (0, 0)) := zs
  have zr' : w1.drew.heap[w.heap.size + 1]? = some (.cells rsZ 27 (0, 0)) := zr
  have zn' : w1.drew.heap[bn]? = some (.cells #[.int .i64 now] 2 (0, 0)) := zn
  have zd' : w1.drew.heap[bd]? = some (.cells #[.int .u32 draw] 22 (0, 0)) := zd
  have zsA : (w1.alloc (.cells #[.int .i64 x, .int .i64 y] 2)).drew.heap[w.heap.size]? = some (.cells (rsC s) 27 (0, 0)) := laid (.cells #[.int .i64 x, .int .i64 y] 2) zs
  have zrA : (w1.alloc (.cells #[.int .i64 x, .int .i64 y] 2)).drew.heap[w.heap.size + 1]? = some (.cells rsZ 27 (0, 0)) := laid (.cells #[.int .i64 x, .int .i64 y] 2) zr
  have znA : (w1.alloc (.cells #[.int .i64 x, .int .i64 y] 2)).drew.heap[bn]? = some (.cells #[.int .i64 now] 2 (0, 0)) := laid (.cells #[.int .i64 x, .int .i64 y] 2) zn
  have zdA : (w1.alloc (.cells #[.int .i64 x, .int .i64 y] 2)).drew.heap[bd]? = some (.cells #[.int .u32 draw] 22 (0, 0)) := laid (.cells #[.int .i64 x, .int .i64 y] 2) zd
  have slA : (w1.alloc (.cells #[.int .i64 x, .int .i64 y] 2)).drew.heap[w1.heap.size]? = some (.cells #[.int .i64 x, .int .i64 y] 2 (0, 0)) := heap_alloc_new w1 (.cells #[.int .i64 x, .int .i64 y] 2)
  have BA : Below w.heap.size w (w1.alloc (.cells #[.int .i64 x, .int .i64 y] 2)).drew := (hA.alloc hA.size (.cells #[.int .i64 x, .int .i64 y] 2)).drew
  have Ka := seven_in zsA znA zdA
  have K0 := seven_in zs' zn' zd'
  go_region_held3 (fun w' => w'.cell? ⟨w.heap.size, 0, none⟩ = some (.int .u8 s.reg) ∧ w'.cell? ⟨w.heap.size, 1, none⟩ = some (.int .i64 s.host) ∧ w'.cell? ⟨w.heap.size, 2, none⟩ = some (.int .i64 s.peer) ∧ w'.cell? ⟨w.heap.size, 3, none⟩ = some (.int .i64 s.burst) ∧ w'.cell? ⟨w.heap.size, 4, none⟩ = some (.int .i64 s.next) ∧ w'.cell? ⟨bn, 0, none⟩ = some (.int .i64 now) ∧ w'.cell? ⟨bd, 0, none⟩ = some (.int .u32 draw))
    (with_reducible assumption)
    (first
      | (go_at_call 30; (with_reducible refine (cw _).mono ?_); rintro e v0 ⟨rfl, rfl⟩)
      | (go_at_call 31; (with_reducible refine (csp _).mono ?_); rintro e v0 ⟨rfl, rfl⟩)
      | (go_at_call 13; (with_reducible refine (cpa _ _ _ _).mono ?_); rintro e v1 ⟨rfl, x0, x1, g⟩; have y0 : v1.heap[w1.heap.size + 1]? = some (.cells #[.int .i64 now] 2 (0, 0)) := (by simpa using x0); have y1 : v1.heap[w1.heap.size + 1 + 1]? = some (.cells #[.slice (some ⟨w1.heap.size, 0, none⟩) 2 2] 61 (0, 0)) := (by simpa using x1); clear x0 x1; have y2 : v1.heap[w1.heap.size]? = some (.cells #[.int .i64 x, .int .i64 y] 2 (0, 0)) := kept slA g; have s1 := kept zsA g; have n1 := kept znA g; have d1 := kept zdA g; have r1 := kept zrA g; have B1 := BA.trans (g.mono BA.size); clear g; have K1 := seven_in s1 n1 d1; have K2 := seven_in (laid (.cells #[.func (.func 24) #[] #[.pointer (some ⟨w1.heap.size + 1, 0, none⟩), .pointer (some ⟨w1.heap.size + 1 + 1, 0, none⟩)]] 41) s1) (laid (.cells #[.func (.func 24) #[] #[.pointer (some ⟨w1.heap.size + 1, 0, none⟩), .pointer (some ⟨w1.heap.size + 1 + 1, 0, none⟩)]] 41) n1) (laid (.cells #[.func (.func 24) #[] #[.pointer (some ⟨w1.heap.size + 1, 0, none⟩), .pointer (some ⟨w1.heap.size + 1 + 1, 0, none⟩)]] 41) d1))
      | (go_at_call 10; refine (c2 _ _ _ _ _ _ _ (heap_alloc_new _ _) (laid _ y0) (laid _ y1) (laid _ y2)).mono ?_; rintro e vb ⟨rfl, gb⟩; have rb := kept (laid (.cells #[.func (.func 24) #[] #[.pointer (some ⟨w1.heap.size + 1, 0, none⟩), .pointer (some ⟨w1.heap.size + 1 + 1, 0, none⟩)]] 41) r1) gb; have Bb := (B1.alloc B1.size (.cells #[.func (.func 24) #[] #[.pointer (some ⟨w1.heap.size + 1, 0, none⟩), .pointer (some ⟨w1.heap.size + 1 + 1, 0, none⟩)]] 41)).trans (gb.mono (B1.alloc B1.size (.cells #[.func (.func 24) #[] #[.pointer (some ⟨w1.heap.size + 1, 0, none⟩), .pointer (some ⟨w1.heap.size + 1 + 1, 0, none⟩)]] 41)).size); have ⟨q0, q1, q2, q3, q4⟩ := five_in rb; have fz := five_thaw rb; have n5 := new5 (.int .u8 s.reg) (.int .i64 s.host) (.int .i64 s.peer) (.int .i64 s.burst) (.int .i64 r) rb; have B5 := below5 (.int .u8 s.reg) (.int .i64 s.host) (.int .i64 s.peer) (.int .i64 s.burst) (.int .i64 r) Bb (show w.heap.size ≤ w.heap.size + 1 by omega); have KX := seven_in (far5 (.int .u8 s.reg) (.int .i64 s.host) (.int .i64 s.peer) (.int .i64 s.burst) (.int .i64 r) (show w.heap.size ≠ w.heap.size + 1 by omega) (kept (laid (.cells #[.func (.func 24) #[] #[.pointer (some ⟨w1.heap.size + 1, 0, none⟩), .pointer (some ⟨w1.heap.size + 1 + 1, 0, none⟩)]] 41) s1) gb)) (far5 (.int .u8 s.reg) (.int .i64 s.host) (.int .i64 s.peer) (.int .i64 s.burst) (.int .i64 r) (show bn ≠ w.heap.size + 1 by omega) (kept (laid (.cells #[.func (.func 24) #[] #[.pointer (some ⟨w1.heap.size + 1, 0, none⟩), .pointer (some ⟨w1.heap.size + 1 + 1, 0, none⟩)]] 41) n1) gb)) (far5 (.int .u8 s.reg) (.int .i64 s.host) (.int .i64 s.peer) (.int .i64 s.burst) (.int .i64 r) (show bd ≠ w.heap.size + 1 by omega) (kept (laid (.cells #[.func (.func 24) #[] #[.pointer (some ⟨w1.heap.size + 1, 0, none⟩), .pointer (some ⟨w1.heap.size + 1 + 1, 0, none⟩)]] 41) d1) gb)); have KY := seven_in (kept (laid (.cells #[.func (.func 24) #[] #[.pointer (some ⟨w1.heap.size + 1, 0, none⟩), .pointer (some ⟨w1.heap.size + 1 + 1, 0, none⟩)]] 41) s1) gb) (kept (laid (.cells #[.func (.func 24) #[] #[.pointer (some ⟨w1.heap.size + 1, 0, none⟩), .pointer (some ⟨w1.heap.size + 1 + 1, 0, none⟩)]] 41) n1) gb) (kept (laid (.cells #[.func (.func 24) #[] #[.pointer (some ⟨w1.heap.size + 1, 0, none⟩), .pointer (some ⟨w1.heap.size + 1 + 1, 0, none⟩)]] 41) d1) gb)))
  go_wp2_with fail
  obtain ⟨f0, f1, f2, f3, f4⟩ := five_in n5
  refine bodyPost_ret (v := .agg #[.int .u8 s.reg, .int .i64 s.host, .int .i64 s.peer, .int .i64 s.burst, .int .i64 r]) ?_ rfl ?_
  · simp [results, Tryz.results29, go_sem, f0, f1, f2, f3, f4]
  · exact ⟨rfl, B5⟩
theorem makes_doubting (p : Pm) (s : Rs) (st : s.Typed) (bp : Nat) (w : World) (hp : w.heap[bp]? = some (.cells (pmC p) 24 (0, 0))) : Makes 26 s (Rs.mk s.reg (if s.reg % 8 = 0 then heldI p (moreI s.host) else s.host) s.peer s.burst s.next) #[.pointer (some ⟨bp, 0, none⟩)] w :=
  ⟨Tryz.call26, fun w1 h => gdoubt1 p s st bp w1 (kept hp h)⟩
theorem makes_waiting (p : Pm) (t : p.Typed) (s : Rs) (st : s.Typed) (now draw : Int) (n0 : -9223372036854775808 ≤ now) (n1 : now ≤ 9223372036854775807) (d0 : 0 ≤ draw) (d1 : draw < 4294967296) (bp bn bd : Nat) (w : World) (hp : w.heap[bp]? = some (.cells (pmC p) 24 (0, 0))) (hn : w.heap[bn]? = some (.cells #[.int .i64 now] 2 (0, 0))) (hd : w.heap[bd]? = some (.cells #[.int .u32 draw] 22 (0, 0))) : Makes 29 s (Rs.mk s.reg s.host s.peer s.burst (waitS now draw (pollS p s))) #[.pointer (some ⟨bp, 0, none⟩), .pointer (some ⟨bn, 0, none⟩), .pointer (some ⟨bd, 0, none⟩)] w :=
  ⟨Tryz.call29, fun w1 h => gwait1 p t s st now draw n0 n1 d0 d1 bp bn bd w1 (kept hp h) (kept hn h) (kept hd h)⟩
set_option maxRecDepth 100000 in
set_option maxHeartbeats 6400000 in
theorem gsent_idle (p : Pm) (t : p.Typed) (s : Rs) (st : s.Typed) (now draw : Int) (n0 : -9223372036854775808 ≤ now) (n1 : now ≤ 9223372036854775807) (d0 : 0 ≤ draw) (d1 : draw < 4294967296) (hbu : ¬ 0 < s.burst) (w : World) :
    Calls Tryz.prog 5 #[p.val, s.val, .int .i64 now, .int .u32 draw] w fun e w' => e = .returned (sentS p s now draw).val ∧ Below w.heap.size w w' := by
  have hA : Below w.heap.size w (((w.alloc (.cells (pmC p) 24)).alloc (.cells (rsC s) 27)).alloc (.cells rsZ 27)) := ((((Below.refl _ _).alloc (Nat.le_refl _) _).alloc (by simp) _).alloc (by simp; omega) _)
  have zp : (((w.alloc (.cells (pmC p) 24)).alloc (.cells (rsC s) 27)).alloc (.cells rsZ 27)).heap[w.heap.size]? = some (.cells (pmC p) 24 (0, 0)) := (laid _ (laid _ (heap_alloc_new w _)))
  have zs : (((w.alloc (.cells (pmC p) 24)).alloc (.cells (rsC s) 27)).alloc (.cells rsZ 27)).heap[w.heap.size + 1]? = some (.cells (rsC s) 27 (0, 0)) := (laid _ (by have := heap_alloc_new (w.alloc (.cells (pmC p) 24)) (.cells (rsC s) 27); simpa [World.size_alloc] using this))
  have zr : (((w.alloc (.cells (pmC p) 24)).alloc (.cells (rsC s) 27)).alloc (.cells rsZ 27)).heap[w.heap.size + 1 + 1]? = some (.cells rsZ 27 (0, 0)) := (by have := heap_alloc_new ((w.alloc (.cells (pmC p) 24)).alloc (.cells (rsC s) 27)) (.cells rsZ 27); simpa [World.size_alloc] using this)
  have hrg := st.reg
  have hmm := more_typed st.host
  have hz : sentS p s now draw = Rs.mk (s.reg * 2 % 256) (if s.reg * 2 % 256 % 8 = 0 then heldI p (moreI s.host) else s.host) s.peer s.burst (waitS now draw (heldI p (min (if s.reg * 2 % 256 % 8 = 0 then heldI p (moreI s.host) else s.host) s.peer))) := by unfold sentS; rw [if_neg hbu]; rfl
  have hhb : -9223372036854775808 ≤ (if s.reg * 2 % 256 % 8 = 0 then heldI p (moreI s.host) else s.host) ∧ (if s.reg * 2 % 256 % 8 = 0 then heldI p (moreI s.host) else s.host) ≤ 9223372036854775807 := by
    split
    · exact held_typed t hmm
    · exact st.host
  have m1 := makes_asking s st
  have m2 := makes_doubting p (Rs.mk (s.reg * 2 % 256) s.host s.peer s.burst s.next) ⟨⟨by show (0 : Int) ≤ s.reg * 2 % 256; omega, by show s.reg * 2 % 256 ≤ 255; omega⟩, st.host, st.peer, st.burst, st.next⟩
  have m3 := makes_waiting p t (Rs.mk (s.reg * 2 % 256) (if s.reg * 2 % 256 % 8 = 0 then heldI p (moreI s.host) else s.host) s.peer s.burst s.next) ⟨⟨by show (0 : Int) ≤ s.reg * 2 % 256; omega, by show s.reg * 2 % 256 ≤ 255; omega⟩, hhb, st.peer, st.burst, st.next⟩ now draw n0 n1 d0 d1
  dsimp only at m2
  unfold pollS at m3
  dsimp only at m3
  rw [hz]
  clear hz hhb hmm hrg
  generalize (if s.reg * 2 % 256 % 8 = 0 then heldI p (moreI s.host) else s.host) = hl at *
  generalize s.reg * 2 % 256 = rg at *
  generalize waitS now draw (heldI p (min hl s.peer)) = r at *
  have cd := gdoubting p
  have cw := gwaiting p now draw
  have c2 := fun (b cap : Nat) (w1 : World) (x a' b' c' : Nat) (hb : w1.heap[b]? = some (.cells #[.func (.func 11) #[] #[], .func (.func 26) #[] #[.pointer (some ⟨x, 0, none⟩)], .func (.func 29) #[] #[.pointer (some ⟨a', 0, none⟩), .pointer (some ⟨b', 0, none⟩), .pointer (some ⟨c', 0, none⟩)]] 41 (0, 0))) (hp : w1.heap[x]? = some (.cells (pmC p) 24 (0, 0))) (ha : w1.heap[a']? = some (.cells (pmC p) 24 (0, 0))) (hbb : w1.heap[b']? = some (.cells #[.int .i64 now] 2 (0, 0))) (hc : w1.heap[c']? = some (.cells #[.int .u32 draw] 22 (0, 0))) => gbehind3 s _ _ _ _ _ _ _ _ _ b cap w1 hb (m1 w1) (m2 x w1 hp) (m3 a' b' c' w1 ha hbb hc)
  clear m1 m2 m3 st
  have hbu' : s.burst ≤ 0 := by omega
  clear hbu
  unfold Pm.val Rs.val at *
  dsimp only at *
  go_enter Tryz.func5, Tryz.ntmps5
  go_upto_region 1 with fail
  generalize (((w.alloc (.cells (pmC p) 24)).alloc (.cells (rsC s) 27)).alloc (.cells rsZ 27)) = w1 at *
  obtain ⟨a0, a1, a2, a3, a4⟩ := five_in zs
  go_upto_region 3 with fail
  clear a0 a1 a2 a3 a4
  have zp' : w1.drew.heap[w.heap.size]? = some (.cells (pmC p) 24 (0, 0)) := zp
  have zs' : w1.drew.heap[w.heap.size + 1]? = some (.cells (rsC s) 27 (0, 0)) := zs
  have zr' : w1.drew.heap[w.heap.size + 1 + 1]? = some (.cells rsZ 27 (0, 0)) := zr
  have Bd : Below w.heap.size w w1.drew := hA.drew
  have K0 := seventeen zp' zs'
  go_region_held3 (fun w' => w'.cell? ⟨w.heap.size, 0, none⟩ = some (.int .i64 p.step) ∧ w'.cell? ⟨w.heap.size, 1, none⟩ = some (.int .i64 p.watch) ∧ w'.cell? ⟨w.heap.size, 2, none⟩ = some (.int .i64 p.panic) ∧ w'.cell? ⟨w.heap.size, 3, none⟩ = some (.int .i64 p.maxrate) ∧ w'.cell? ⟨w.heap.size, 4, none⟩ = some (.int .i64 p.phi) ∧ w'.cell? ⟨w.heap.size, 5, none⟩ = some (.int .i64 p.maxdist) ∧ w'.cell? ⟨w.heap.size, 6, none⟩ = some (.int .i64 p.gate) ∧ w'.cell? ⟨w.heap.size, 7, none⟩ = some (.int .i64 p.minpoll) ∧ w'.cell? ⟨w.heap.size, 8, none⟩ = some (.int .i64 p.maxpoll) ∧ w'.cell? ⟨w.heap.size, 9, none⟩ = some (.int .i64 p.burst) ∧ w'.cell? ⟨w.heap.size, 10, none⟩ = some (.int .i64 p.minsane) ∧ w'.cell? ⟨w.heap.size, 11, none⟩ = some (.int .i64 p.minleft) ∧ w'.cell? ⟨w.heap.size + 1, 0, none⟩ = some (.int .u8 s.reg) ∧ w'.cell? ⟨w.heap.size + 1, 1, none⟩ = some (.int .i64 s.host) ∧ w'.cell? ⟨w.heap.size + 1, 2, none⟩ = some (.int .i64 s.peer) ∧ w'.cell? ⟨w.heap.size + 1, 3, none⟩ = some (.int .i64 s.burst) ∧ w'.cell? ⟨w.heap.size + 1, 4, none⟩ = some (.int .i64 s.next))
    (with_reducible assumption)
    (first
      | (go_at_call 14; (with_reducible refine (cd _).mono ?_); rintro e v1 ⟨rfl, x0, g⟩; have y0 : v1.heap[w1.heap.size]? = some (.cells (pmC p) 24 (0, 0)) := x0; clear x0; have p1 := kept zp' g; have s1 := kept zs' g; have r1 := kept zr' g; have B1 := Bd.trans (g.mono Bd.size); clear g; have K1 := seventeen p1 s1)
      | (go_at_call 15; (with_reducible refine (cw _).mono ?_); rintro e v2 ⟨rfl, x0, x1, x2, g⟩; have y1 : v2.heap[v1.heap.size]? = some (.cells (pmC p) 24 (0, 0)) := x0; have y2 : v2.heap[v1.heap.size + 1]? = some (.cells #[.int .i64 now] 2 (0, 0)) := x1; have y3 : v2.heap[v1.heap.size + 2]? = some (.cells #[.int .u32 draw] 22 (0, 0)) := x2; clear x0 x1 x2; have p2 := kept p1 g; have s2 := kept s1 g; have r2 := kept r1 g; have y0a := kept y0 g; have B2 := B1.trans (g.mono B1.size); clear g; have K2 := seventeen p2 s2; have K3 := seventeen (laid (.cells #[.func (.func 11) #[] #[], .func (.func 26) #[] #[.pointer (some ⟨w1.heap.size, 0, none⟩)], .func (.func 29) #[] #[.pointer (some ⟨v1.heap.size, 0, none⟩), .pointer (some ⟨v1.heap.size + 1, 0, none⟩), .pointer (some ⟨v1.heap.size + 2, 0, none⟩)]] 41) p2) (laid (.cells #[.func (.func 11) #[] #[], .func (.func 26) #[] #[.pointer (some ⟨w1.heap.size, 0, none⟩)], .func (.func 29) #[] #[.pointer (some ⟨v1.heap.size, 0, none⟩), .pointer (some ⟨v1.heap.size + 1, 0, none⟩), .pointer (some ⟨v1.heap.size + 2, 0, none⟩)]] 41) s2))
      | (go_at_call 10; refine (c2 _ _ _ _ _ _ _ (heap_alloc_new _ _) (laid _ y0a) (laid _ y1) (laid _ y2) (laid _ y3)).mono ?_; rintro e vb ⟨rfl, gb⟩; have rb := kept (laid (.cells #[.func (.func 11) #[] #[], .func (.func 26) #[] #[.pointer (some ⟨w1.heap.size, 0, none⟩)], .func (.func 29) #[] #[.pointer (some ⟨v1.heap.size, 0, none⟩), .pointer (some ⟨v1.heap.size + 1, 0, none⟩), .pointer (some ⟨v1.heap.size + 2, 0, none⟩)]] 41) r2) gb; have Bb := (B2.alloc B2.size (.cells #[.func (.func 11) #[] #[], .func (.func 26) #[] #[.pointer (some ⟨w1.heap.size, 0, none⟩)], .func (.func 29) #[] #[.pointer (some ⟨v1.heap.size, 0, none⟩), .pointer (some ⟨v1.heap.size + 1, 0, none⟩), .pointer (some ⟨v1.heap.size + 2, 0, none⟩)]] 41)).trans (gb.mono (B2.alloc B2.size (.cells #[.func (.func 11) #[] #[], .func (.func 26) #[] #[.pointer (some ⟨w1.heap.size, 0, none⟩)], .func (.func 29) #[] #[.pointer (some ⟨v1.heap.size, 0, none⟩), .pointer (some ⟨v1.heap.size + 1, 0, none⟩), .pointer (some ⟨v1.heap.size + 2, 0, none⟩)]] 41)).size); have ⟨q0, q1, q2, q3, q4⟩ := five_in rb; have fz := five_thaw rb; have n5 := new5 (.int .u8 rg) (.int .i64 hl) (.int .i64 s.peer) (.int .i64 s.burst) (.int .i64 r) rb; have B5 := below5 (.int .u8 rg) (.int .i64 hl) (.int .i64 s.peer) (.int .i64 s.burst) (.int .i64 r) Bb (show w.heap.size ≤ w.heap.size + 1 + 1 by omega); have KX := seventeen (far5 (.int .u8 rg) (.int .i64 hl) (.int .i64 s.peer) (.int .i64 s.burst) (.int .i64 r) (show w.heap.size ≠ w.heap.size + 1 + 1 by omega) (kept (laid (.cells #[.func (.func 11) #[] #[], .func (.func 26) #[] #[.pointer (some ⟨w1.heap.size, 0, none⟩)], .func (.func 29) #[] #[.pointer (some ⟨v1.heap.size, 0, none⟩), .pointer (some ⟨v1.heap.size + 1, 0, none⟩), .pointer (some ⟨v1.heap.size + 2, 0, none⟩)]] 41) p2) gb)) (far5 (.int .u8 rg) (.int .i64 hl) (.int .i64 s.peer) (.int .i64 s.burst) (.int .i64 r) (show w.heap.size + 1 ≠ w.heap.size + 1 + 1 by omega) (kept (laid (.cells #[.func (.func 11) #[] #[], .func (.func 26) #[] #[.pointer (some ⟨w1.heap.size, 0, none⟩)], .func (.func 29) #[] #[.pointer (some ⟨v1.heap.size, 0, none⟩), .pointer (some ⟨v1.heap.size + 1, 0, none⟩), .pointer (some ⟨v1.heap.size + 2, 0, none⟩)]] 41) s2) gb)); have KY := seventeen (kept (laid (.cells #[.func (.func 11) #[] #[], .func (.func 26) #[] #[.pointer (some ⟨w1.heap.size, 0, none⟩)], .func (.func 29) #[] #[.pointer (some ⟨v1.heap.size, 0, none⟩), .pointer (some ⟨v1.heap.size + 1, 0, none⟩), .pointer (some ⟨v1.heap.size + 2, 0, none⟩)]] 41) p2) gb) (kept (laid (.cells #[.func (.func 11) #[] #[], .func (.func 26) #[] #[.pointer (some ⟨w1.heap.size, 0, none⟩)], .func (.func 29) #[] #[.pointer (some ⟨v1.heap.size, 0, none⟩), .pointer (some ⟨v1.heap.size + 1, 0, none⟩), .pointer (some ⟨v1.heap.size + 2, 0, none⟩)]] 41) s2) gb)))
  go_wp2_with fail
  obtain ⟨f0, f1, f2, f3, f4⟩ := five_in n5
  refine bodyPost_ret (v := .agg #[.int .u8 rg, .int .i64 hl, .int .i64 s.peer, .int .i64 s.burst, .int .i64 r]) ?_ rfl ?_
  · simp [results, Tryz.results5, go_sem, f0, f1, f2, f3, f4]
  · exact ⟨rfl, B5⟩
set_option maxRecDepth 100000 in
set_option maxHeartbeats 6400000 in
theorem gsent_burst (p : Pm) (t : p.Typed) (s : Rs) (st : s.Typed) (now draw : Int) (n0 : -9223372036854775808 ≤ now) (n1 : now ≤ 9223372036854775807) (d0 : 0 ≤ draw) (d1 : draw < 4294967296) (hbu : 0 < s.burst) (w : World) :
    Calls Tryz.prog 5 #[p.val, s.val, .int .i64 now, .int .u32 draw] w fun e w' => e = .returned (sentS p s now draw).val ∧ Below w.heap.size w w' := by
  have hA : Below w.heap.size w (((w.alloc (.cells (pmC p) 24)).alloc (.cells (rsC s) 27)).alloc (.cells rsZ 27)) := ((((Below.refl _ _).alloc (Nat.le_refl _) _).alloc (by simp) _).alloc (by simp; omega) _)
  have zp : (((w.alloc (.cells (pmC p) 24)).alloc (.cells (rsC s) 27)).alloc (.cells rsZ 27)).heap[w.heap.size]? = some (.cells (pmC p) 24 (0, 0)) := (laid _ (laid _ (heap_alloc_new w _)))
  have zs : (((w.alloc (.cells (pmC p) 24)).alloc (.cells (rsC s) 27)).alloc (.cells rsZ 27)).heap[w.heap.size + 1]? = some (.cells (rsC s) 27 (0, 0)) := (laid _ (by have := heap_alloc_new (w.alloc (.cells (pmC p) 24)) (.cells (rsC s) 27); simpa [World.size_alloc] using this))
  have zr : (((w.alloc (.cells (pmC p) 24)).alloc (.cells (rsC s) 27)).alloc (.cells rsZ 27)).heap[w.heap.size + 1 + 1]? = some (.cells rsZ 27 (0, 0)) := (by have := heap_alloc_new ((w.alloc (.cells (pmC p) 24)).alloc (.cells (rsC s) 27)) (.cells rsZ 27); simpa [World.size_alloc] using this)
  have hrg := st.reg
  have hz : sentS p s now draw = Rs.mk (s.reg * 2 % 256) s.host s.peer (s.burst - 1) (addI now 8589934592) := by unfold sentS; rw [if_pos hbu]
  have m1 := makes_asking s st
  have m2 := makes_bursting (Rs.mk (s.reg * 2 % 256) s.host s.peer s.burst s.next) (s.burst - 1)
  have m3 := makes_pausing1 (Rs.mk (s.reg * 2 % 256) s.host s.peer (s.burst - 1) s.next) now 8589934592 n0 n1 (by decide) (by decide)
  dsimp only at m2 m3
  rw [hz]
  clear hz hrg
  have hbm : IntKind.i64.wrap (s.burst - 1) = s.burst - 1 := IntWalk.i64_in _ (by have := st.burst; omega)
  generalize s.reg * 2 % 256 = rg at *
  generalize addI now 8589934592 = r at *
  have cb := gbursting (s.burst - 1)
  have cpa := gpausing now
  have c2 := fun (b cap : Nat) (w1 : World) (x a' b' c' cap2 : Nat) (hb : w1.heap[b]? = some (.cells #[.func (.func 11) #[] #[], .func (.func 23) #[] #[.pointer (some ⟨x, 0, none⟩)], .func (.func 24) #[] #[.pointer (some ⟨a', 0, none⟩), .pointer (some ⟨b', 0, none⟩)]] 41 (0, 0))) (hp : w1.heap[x]? = some (.cells #[.int .i64 (s.burst - 1)] 3 (0, 0))) (ha : w1.heap[a']? = some (.cells #[.int .i64 now] 2 (0, 0))) (hbb : w1.heap[b']? = some (.cells #[.slice (some ⟨c', 0, none⟩) 1 cap2] 61 (0, 0))) (hc : w1.heap[c']? = some (.cells #[.int .i64 8589934592] 2 (0, 0))) => gbehind3 s _ _ _ _ _ _ _ _ _ b cap w1 hb (m1 w1) (m2 x w1 hp) (m3 a' b' c' cap2 w1 ha hbb hc)
  clear m1 m2 m3 st
  unfold Pm.val Rs.val at *
  dsimp only at *
  go_enter Tryz.func5, Tryz.ntmps5
  go_upto_region 1 with fail
  generalize (((w.alloc (.cells (pmC p) 24)).alloc (.cells (rsC s) 27)).alloc (.cells rsZ 27)) = w1 at *
  obtain ⟨a0, a1, a2, a3, a4⟩ := five_in zs
  have HB := Lib.hid hbm
  clear hbm
  go_upto_region 2 with fail
  have hbm := HB.out
  clear a0 a1 a2 a3 a4 HB
  have zs' : w1.drew.heap[w.heap.size + 1]? = some (.cells (rsC s) 27 (0, 0)) := zs
  have zr' : w1.drew.heap[w.heap.size + 1 + 1]? = some (.cells rsZ 27 (0, 0)) := zr
  have Bd : Below w.heap.size w w1.drew := hA.drew
  have zsA : (w1.alloc (.cells #[.int .i64 8589934592] 2)).drew.heap[w.heap.size + 1]? = some (.cells (rsC s) 27 (0, 0)) := laid (.cells #[.int .i64 8589934592] 2) zs
  have zrA : (w1.alloc (.cells #[.int .i64 8589934592] 2)).drew.heap[w.heap.size + 1 + 1]? = some (.cells rsZ 27 (0, 0)) := laid (.cells #[.int .i64 8589934592] 2) zr
  have slA : (w1.alloc (.cells #[.int .i64 8589934592] 2)).drew.heap[w1.heap.size]? = some (.cells #[.int .i64 8589934592] 2 (0, 0)) := heap_alloc_new w1 (.cells #[.int .i64 8589934592] 2)
  have BA : Below w.heap.size w (w1.alloc (.cells #[.int .i64 8589934592] 2)).drew := (hA.alloc hA.size (.cells #[.int .i64 8589934592] 2)).drew
  have Ka := five_in zsA
  have K0 := five_in zs'
  go_region_held3 (fun w' => w'.cell? ⟨w.heap.size + 1, 0, none⟩ = some (.int .u8 s.reg) ∧ w'.cell? ⟨w.heap.size + 1, 1, none⟩ = some (.int .i64 s.host) ∧ w'.cell? ⟨w.heap.size + 1, 2, none⟩ = some (.int .i64 s.peer) ∧ w'.cell? ⟨w.heap.size + 1, 3, none⟩ = some (.int .i64 s.burst) ∧ w'.cell? ⟨w.heap.size + 1, 4, none⟩ = some (.int .i64 s.next))
    (with_reducible assumption)
    (first
      | (go_at_call 12; first
          | ((with_reducible refine (cb w1.drew).mono ?_); rintro e v1 ⟨rfl, x0, g⟩; have y0 : v1.heap[w1.heap.size]? = some (.cells #[.int .i64 (s.burst - 1)] 3 (0, 0)) := x0; have s1 := kept zs' g; have r1 := kept zr' g; have B1 := Bd.trans (g.mono Bd.size); have K1 := five_in s1; have K2 := five_in (laid (.cells #[.int .i64 8589934592] 2) s1); have s1a := laid (.cells #[.int .i64 8589934592] 2) s1; have r1a := laid (.cells #[.int .i64 8589934592] 2) r1; have y0a := laid (.cells #[.int .i64 8589934592] 2) y0; have B1a := B1.alloc B1.size (.cells #[.int .i64 8589934592] 2); have l1 := heap_alloc_new v1 (.cells #[.int .i64 8589934592] 2); clear x0 g)
          | ((with_reducible refine (cb (w1.alloc (.cells #[.int .i64 8589934592] 2)).drew).mono ?_); rintro e v1 ⟨rfl, x0, g⟩; have y0 : v1.heap[w1.heap.size + 1]? = some (.cells #[.int .i64 (s.burst - 1)] 3 (0, 0)) := (by simpa using x0); have s1 := kept zsA g; have r1 := kept zrA g; have B1 := BA.trans (g.mono BA.size); have K1 := five_in s1; have l1 := kept slA g; clear x0 g))
      | (go_at_call 13; first
          | ((with_reducible refine (cpa _ _ _ (v1.alloc (.cells #[.int .i64 8589934592] 2))).mono ?_); rintro e v2 ⟨rfl, x0, x1, g⟩; have y1 : v2.heap[v1.heap.size + 1]? = some (.cells #[.int .i64 now] 2 (0, 0)) := (by simpa using x0); have y2 : v2.heap[v1.heap.size + 1 + 1]? = some (.cells #[.slice (some ⟨v1.heap.size, 0, none⟩) 1 1] 61 (0, 0)) := (by simpa using x1); have s2 := kept s1a g; have r2 := kept r1a g; have y0b := kept y0a g; have l2 := kept l1 g; have B2 := B1a.trans (g.mono B1a.size); have K3 := five_in s2; have K4 := five_in (laid (.cells #[.func (.func 11) #[] #[], .func (.func 23) #[] #[.pointer (some ⟨w1.heap.size, 0, none⟩)], .func (.func 24) #[] #[.pointer (some ⟨v1.heap.size + 1, 0, none⟩), .pointer (some ⟨v1.heap.size + 1 + 1, 0, none⟩)]] 41) s2); clear x0 x1 g)
          | ((with_reducible refine (cpa _ _ _ v1).mono ?_); rintro e v2 ⟨rfl, x0, x1, g⟩; have y1 : v2.heap[v1.heap.size]? = some (.cells #[.int .i64 now] 2 (0, 0)) := x0; have y2 : v2.heap[v1.heap.size + 1]? = some (.cells #[.slice (some ⟨w1.heap.size, 0, none⟩) 1 1] 61 (0, 0)) := x1; have s2 := kept s1 g; have r2 := kept r1 g; have y0b := kept y0 g; have l2 := kept l1 g; have B2 := B1.trans (g.mono B1.size); have K3 := five_in s2; have K4 := five_in (laid (.cells #[.func (.func 11) #[] #[], .func (.func 23) #[] #[.pointer (some ⟨w1.heap.size + 1, 0, none⟩)], .func (.func 24) #[] #[.pointer (some ⟨v1.heap.size, 0, none⟩), .pointer (some ⟨v1.heap.size + 1, 0, none⟩)]] 41) s2); clear x0 x1 g))
      | (first
          | (go_at_call 10; refine (c2 _ _ _ _ _ _ _ _ (heap_alloc_new _ _) (laid _ y0b) (laid _ y1) (laid _ y2) (laid _ l2)).mono ?_; rintro e vb ⟨rfl, gb⟩; have rb := kept (laid (.cells #[.func (.func 11) #[] #[], .func (.func 23) #[] #[.pointer (some ⟨w1.heap.size, 0, none⟩)], .func (.func 24) #[] #[.pointer (some ⟨v1.heap.size + 1, 0, none⟩), .pointer (some ⟨v1.heap.size + 1 + 1, 0, none⟩)]] 41) r2) gb; have Bb := (B2.alloc B2.size (.cells #[.func (.func 11) #[] #[], .func (.func 23) #[] #[.pointer (some ⟨w1.heap.size, 0, none⟩)], .func (.func 24) #[] #[.pointer (some ⟨v1.heap.size + 1, 0, none⟩), .pointer (some ⟨v1.heap.size + 1 + 1, 0, none⟩)]] 41)).trans (gb.mono (B2.alloc B2.size (.cells #[.func (.func 11) #[] #[], .func (.func 23) #[] #[.pointer (some ⟨w1.heap.size, 0, none⟩)], .func (.func 24) #[] #[.pointer (some ⟨v1.heap.size + 1, 0, none⟩), .pointer (some ⟨v1.heap.size + 1 + 1, 0, none⟩)]] 41)).size); have ⟨q0, q1, q2, q3, q4⟩ := five_in rb; have fz := five_thaw rb; have n5 := new5 (.int .u8 rg) (.int .i64 s.host) (.int .i64 s.peer) (.int .i64 (s.burst - 1)) (.int .i64 r) rb; have B5 := below5 (.int .u8 rg) (.int .i64 s.host) (.int .i64 s.peer) (.int .i64 (s.burst - 1)) (.int .i64 r) Bb (show w.heap.size ≤ w.heap.size + 1 + 1 by omega); have KX := five_in (far5 (.int .u8 rg) (.int .i64 s.host) (.int .i64 s.peer) (.int .i64 (s.burst - 1)) (.int .i64 r) (show w.heap.size + 1 ≠ w.heap.size + 1 + 1 by omega) (kept (laid (.cells #[.func (.func 11) #[] #[], .func (.func 23) #[] #[.pointer (some ⟨w1.heap.size, 0, none⟩)], .func (.func 24) #[] #[.pointer (some ⟨v1.heap.size + 1, 0, none⟩), .pointer (some ⟨v1.heap.size + 1 + 1, 0, none⟩)]] 41) s2) gb)); have KY := five_in (kept (laid (.cells #[.func (.func 11) #[] #[], .func (.func 23) #[] #[.pointer (some ⟨w1.heap.size, 0, none⟩)], .func (.func 24) #[] #[.pointer (some ⟨v1.heap.size + 1, 0, none⟩), .pointer (some ⟨v1.heap.size + 1 + 1, 0, none⟩)]] 41) s2) gb))
          | (go_at_call 10; refine (c2 _ _ _ _ _ _ _ _ (heap_alloc_new _ _) (laid _ y0b) (laid _ y1) (laid _ y2) (laid _ l2)).mono ?_; rintro e vb ⟨rfl, gb⟩; have rb := kept (laid (.cells #[.func (.func 11) #[] #[], .func (.func 23) #[] #[.pointer (some ⟨w1.heap.size + 1, 0, none⟩)], .func (.func 24) #[] #[.pointer (some ⟨v1.heap.size, 0, none⟩), .pointer (some ⟨v1.heap.size + 1, 0, none⟩)]] 41) r2) gb; have Bb := (B2.alloc B2.size (.cells #[.func (.func 11) #[] #[], .func (.func 23) #[] #[.pointer (some ⟨w1.heap.size + 1, 0, none⟩)], .func (.func 24) #[] #[.pointer (some ⟨v1.heap.size, 0, none⟩), .pointer (some ⟨v1.heap.size + 1, 0, none⟩)]] 41)).trans (gb.mono (B2.alloc B2.size (.cells #[.func (.func 11) #[] #[], .func (.func 23) #[] #[.pointer (some ⟨w1.heap.size + 1, 0, none⟩)], .func (.func 24) #[] #[.pointer (some ⟨v1.heap.size, 0, none⟩), .pointer (some ⟨v1.heap.size + 1, 0, none⟩)]] 41)).size); have ⟨q0, q1, q2, q3, q4⟩ := five_in rb; have fz := five_thaw rb; have n5 := new5 (.int .u8 rg) (.int .i64 s.host) (.int .i64 s.peer) (.int .i64 (s.burst - 1)) (.int .i64 r) rb; have B5 := below5 (.int .u8 rg) (.int .i64 s.host) (.int .i64 s.peer) (.int .i64 (s.burst - 1)) (.int .i64 r) Bb (show w.heap.size ≤ w.heap.size + 1 + 1 by omega); have KX := five_in (far5 (.int .u8 rg) (.int .i64 s.host) (.int .i64 s.peer) (.int .i64 (s.burst - 1)) (.int .i64 r) (show w.heap.size + 1 ≠ w.heap.size + 1 + 1 by omega) (kept (laid (.cells #[.func (.func 11) #[] #[], .func (.func 23) #[] #[.pointer (some ⟨w1.heap.size + 1, 0, none⟩)], .func (.func 24) #[] #[.pointer (some ⟨v1.heap.size, 0, none⟩), .pointer (some ⟨v1.heap.size + 1, 0, none⟩)]] 41) s2) gb)); have KY := five_in (kept (laid (.cells #[.func (.func 11) #[] #[], .func (.func 23) #[] #[.pointer (some ⟨w1.heap.size + 1, 0, none⟩)], .func (.func 24) #[] #[.pointer (some ⟨v1.heap.size, 0, none⟩), .pointer (some ⟨v1.heap.size + 1, 0, none⟩)]] 41) s2) gb))))
  all_goals (
    go_wp2_with fail
    obtain ⟨f0, f1, f2, f3, f4⟩ := five_in n5
    refine bodyPost_ret (v := .agg #[.int .u8 rg, .int .i64 s.host, .int .i64 s.peer, .int .i64 (s.burst - 1), .int .i64 r]) ?_ rfl ?_
    · simp [results, Tryz.results5, go_sem, f0, f1, f2, f3, f4]
    · exact ⟨rfl, B5⟩)
def popI (x : Int) : Int := x % 2 + x / 2 % 2 + x / 4 % 2 + x / 8 % 2 + x / 16 % 2 + x / 32 % 2 + x / 64 % 2 + x / 128 % 2
theorem ones_of (B : ByteArray) (h : ∀ i : Fin 256, (if hh : i.val < B.size then ((B[i.val]'hh).toNat : Int) == popI i.val else false) = true) (n : Nat) (hn : n < B.size) (h256 : n < 256) : wrap64 ((B[n]'hn).toNat : Int) = popI n := by
  have := h ⟨n, h256⟩
  dsimp only at this
  rw [dif_pos hn] at this
  have e : ((B[n]'hn).toNat : Int) = popI n := by simpa using this
  rw [e]
  have : 0 ≤ popI n ∧ popI n ≤ 8 := by unfold popI; omega
  simp only [wrap64]
  omega
set_option maxRecDepth 100000 in
set_option maxHeartbeats 6400000 in
theorem gones_any (x : Int) (h0 : 0 ≤ x) (h1 : x ≤ 255) (w : World) : Calls (Tryz.prog) 34 #[.int .u8 x] w fun e w' => e = .returned (.int .i64 (popI x)) ∧ w = w' := by
  obtain ⟨n, rfl⟩ : ∃ n : Nat, x = (n : Int) := ⟨x.toNat, by omega⟩
  have hn : n < 256 := by omega
  go_enter Tryz.func34, Tryz.ntmps34
  go_wp2_with fail
  go_ret
  refine ⟨?_, rfl⟩
  rw [ones_of _ (by decide +kernel) n _ hn]
  rfl
set_option maxRecDepth 100000 in
set_option maxHeartbeats 3200000 in
theorem gans_any (s : Rs) (st : s.Typed) (w : World) : Calls Tryz.prog 18 #[s.val] w fun e w' => e = .returned (.int .i64 (ansI s)) ∧ Below w.heap.size w w' := by
  have c := gones_any s.reg st.reg.1 st.reg.2
  have e : ansI s = popI s.reg := rfl
  rw [e]
  generalize popI s.reg = r at *
  have hA : Below w.heap.size w (w.alloc (.cells (rsC s) 27)) := (Below.refl _ _).alloc (Nat.le_refl _) _
  clear e
  unfold Rs.val rsC at *
  go_enter Tryz.func18, Tryz.ntmps18
  go_wp2_with fail
  (with_reducible refine (c _).mono ?_)
  rintro e w1 ⟨rfl, rfl⟩
  go_wp2_with fail
  go_ret
  exact ⟨rfl, hA⟩
theorem six_in {w : World} {b c : Nat} {p : Pm} {a0 a1 a2 a3 a4 : Value} {t u : TypeId} (h : w.heap[b]? = some (.cells #[a0, a1, a2, a3, a4] t (0, 0))) (g : w.heap[c]? = some (.cells (pmC p) u (0, 0))) :
    w.cell? ⟨b, 0, none⟩ = some a0 ∧ w.cell? ⟨b, 1, none⟩ = some a1 ∧ w.cell? ⟨b, 2, none⟩ = some a2 ∧ w.cell? ⟨b, 3, none⟩ = some a3 ∧ w.cell? ⟨b, 4, none⟩ = some a4 ∧ w.cell? ⟨c, 9, none⟩ = some (.int .i64 p.burst) := by
  refine ⟨?_, ?_, ?_, ?_, ?_, ?_⟩ <;> first | (simp [World.cell?, h]; done) | simp [World.cell?, g]
set_option maxRecDepth 100000 in
set_option maxHeartbeats 6400000 in
theorem gstart_any (p : Pm) (now draw : Int) (n0 : -9223372036854775808 ≤ now) (n1 : now ≤ 9223372036854775807) (d0 : 0 ≤ draw) (d1 : draw < 4294967296) (w : World) :
    Calls Tryz.prog 17 #[p.val, .int .i64 now, .int .u32 draw] w fun e w' => e = .returned (startS p now draw).val ∧ Below w.heap.size w w' := by
  have hA : Below w.heap.size w (((w.alloc (.cells (pmC p) 24)).alloc (.cells rsZ 27)).alloc (.cells #[.int .u8 0, .int .i64 p.minpoll, .int .i64 p.minpoll, .int .i64 0, .int .i64 0] 27)) := ((((Below.refl _ _).alloc (Nat.le_refl _) _).alloc (by simp) _).alloc (by simp; omega) _)
  have zp : (((w.alloc (.cells (pmC p) 24)).alloc (.cells rsZ 27)).alloc (.cells #[.int .u8 0, .int .i64 p.minpoll, .int .i64 p.minpoll, .int .i64 0, .int .i64 0] 27)).heap[w.heap.size]? = some (.cells (pmC p) 24 (0, 0)) := (laid _ (laid _ (heap_alloc_new w _)))
  have zr : (((w.alloc (.cells (pmC p) 24)).alloc (.cells rsZ 27)).alloc (.cells #[.int .u8 0, .int .i64 p.minpoll, .int .i64 p.minpoll, .int .i64 0, .int .i64 0] 27)).heap[w.heap.size + 1]? = some (.cells rsZ 27 (0, 0)) := (laid _ (by have := heap_alloc_new (w.alloc (.cells (pmC p) 24)) (.cells rsZ 27); simpa [World.size_alloc] using this))
  have zs : (((w.alloc (.cells (pmC p) 24)).alloc (.cells rsZ 27)).alloc (.cells #[.int .u8 0, .int .i64 p.minpoll, .int .i64 p.minpoll, .int .i64 0, .int .i64 0] 27)).heap[w.heap.size + 1 + 1]? = some (.cells #[.int .u8 0, .int .i64 p.minpoll, .int .i64 p.minpoll, .int .i64 0, .int .i64 0] 27 (0, 0)) := (by have := heap_alloc_new ((w.alloc (.cells (pmC p) 24)).alloc (.cells rsZ 27)) (.cells #[.int .u8 0, .int .i64 p.minpoll, .int .i64 p.minpoll, .int .i64 0, .int .i64 0] 27); simpa [World.size_alloc] using this)
  have hz : startS p now draw = Rs.mk 0 p.minpoll p.minpoll p.burst (addI now draw) := rfl
  have m2 := makes_bursting (Rs.mk 0 p.minpoll p.minpoll 0 0) p.burst
  have m3 := makes_pausing1 (Rs.mk 0 p.minpoll p.minpoll p.burst 0) now draw n0 n1 (by omega) (by omega)
  dsimp only at m2 m3
  rw [hz]
  clear hz
  have hdw : IntKind.i64.wrap draw = draw := IntWalk.i64_in _ (by omega)
  generalize addI now draw = r at *
  have cb := gbursting p.burst
  have cpa := gpausing now
  have c2 := fun (b cap : Nat) (w1 : World) (x a' b' c' cap2 : Nat) (hb : w1.heap[b]? = some (.cells #[.func (.func 23) #[] #[.pointer (some ⟨x, 0, none⟩)], .func (.func 24) #[] #[.pointer (some ⟨a', 0, none⟩), .pointer (some ⟨b', 0, none⟩)]] 41 (0, 0))) (hp : w1.heap[x]? = some (.cells #[.int .i64 p.burst] 3 (0, 0))) (ha : w1.heap[a']? = some (.cells #[.int .i64 now] 2 (0, 0))) (hbb : w1.heap[b']? = some (.cells #[.slice (some ⟨c', 0, none⟩) 1 cap2] 61 (0, 0))) (hc : w1.heap[c']? = some (.cells #[.int .i64 draw] 2 (0, 0))) => gbehind2 (Rs.mk 0 p.minpoll p.minpoll 0 0) _ _ _ _ _ _ b cap w1 hb (m2 x w1 hp) (m3 a' b' c' cap2 w1 ha hbb hc)
  clear m2 m3
  unfold Pm.val Rs.val at *
  dsimp only at *
  have HB := Lib.hid hdw
  clear hdw
  go_enter Tryz.func17, Tryz.ntmps17
  go_upto_region 2 with fail
  generalize (((w.alloc (.cells (pmC p) 24)).alloc (.cells rsZ 27)).alloc (.cells #[.int .u8 0, .int .i64 p.minpoll, .int .i64 p.minpoll, .int .i64 0, .int .i64 0] 27)) = w1 at *
  have hdw := HB.out
  clear HB
  have zs' : w1.drew.heap[w.heap.size + 1 + 1]? = some (.cells #[.int .u8 0, .int .i64 p.minpoll, .int .i64 p.minpoll, .int .i64 0, .int .i64 0] 27 (0, 0)) := zs
  have zp' : w1.drew.heap[w.heap.size]? = some (.cells (pmC p) 24 (0, 0)) := zp
  have zr' : w1.drew.heap[w.heap.size + 1]? = some (.cells rsZ 27 (0, 0)) := zr
  have Bd : Below w.heap.size w w1.drew := hA.drew
  have zsA : (w1.alloc (.cells #[.int .i64 draw] 2)).drew.heap[w.heap.size + 1 + 1]? = some (.cells #[.int .u8 0, .int .i64 p.minpoll, .int .i64 p.minpoll, .int .i64 0, .int .i64 0] 27 (0, 0)) := laid (.cells #[.int .i64 draw] 2) zs
  have zpA : (w1.alloc (.cells #[.int .i64 draw] 2)).drew.heap[w.heap.size]? = some (.cells (pmC p) 24 (0, 0)) := laid (.cells #[.int .i64 draw] 2) zp
  have zrA : (w1.alloc (.cells #[.int .i64 draw] 2)).drew.heap[w.heap.size + 1]? = some (.cells rsZ 27 (0, 0)) := laid (.cells #[.int .i64 draw] 2) zr
  have slA : (w1.alloc (.cells #[.int .i64 draw] 2)).drew.heap[w1.heap.size]? = some (.cells #[.int .i64 draw] 2 (0, 0)) := heap_alloc_new w1 (.cells #[.int .i64 draw] 2)
  have BA : Below w.heap.size w (w1.alloc (.cells #[.int .i64 draw] 2)).drew := (hA.alloc hA.size (.cells #[.int .i64 draw] 2)).drew
  have Ka := six_in zsA zpA
  have K0 := six_in zs' zp'
  go_region_held3 (fun w' => w'.cell? ⟨w.heap.size + 1 + 1, 0, none⟩ = some (.int .u8 0) ∧ w'.cell? ⟨w.heap.size + 1 + 1, 1, none⟩ = some (.int .i64 p.minpoll) ∧ w'.cell? ⟨w.heap.size + 1 + 1, 2, none⟩ = some (.int .i64 p.minpoll) ∧ w'.cell? ⟨w.heap.size + 1 + 1, 3, none⟩ = some (.int .i64 0) ∧ w'.cell? ⟨w.heap.size + 1 + 1, 4, none⟩ = some (.int .i64 0) ∧ w'.cell? ⟨w.heap.size, 9, none⟩ = some (.int .i64 p.burst))
    (with_reducible assumption)
    (first
      | (go_at_call 12; first
          | ((with_reducible refine (cb w1.drew).mono ?_); rintro e v1 ⟨rfl, x0, g⟩; have y0 : v1.heap[w1.heap.size]? = some (.cells #[.int .i64 p.burst] 3 (0, 0)) := x0; have s1 := kept zs' g; have p1 := kept zp' g; have r1 := kept zr' g; have B1 := Bd.trans (g.mono Bd.size); have K1 := six_in s1 p1; have K2 := six_in (laid (.cells #[.int .i64 draw] 2) s1) (laid (.cells #[.int .i64 draw] 2) p1); have s1a := laid (.cells #[.int .i64 draw] 2) s1; have p1a := laid (.cells #[.int .i64 draw] 2) p1; have r1a := laid (.cells #[.int .i64 draw] 2) r1; have y0a := laid (.cells #[.int .i64 draw] 2) y0; have B1a := B1.alloc B1.size (.cells #[.int .i64 draw] 2); have l1 := heap_alloc_new v1 (.cells #[.int .i64 draw] 2); clear x0 g)
          | ((with_reducible refine (cb (w1.alloc (.cells #[.int .i64 draw] 2)).drew).mono ?_); rintro e v1 ⟨rfl, x0, g⟩; have y0 : v1.heap[w1.heap.size + 1]? = some (.cells #[.int .i64 p.burst] 3 (0, 0)) := (by simpa using x0); have s1 := kept zsA g; have p1 := kept zpA g; have r1 := kept zrA g; have B1 := BA.trans (g.mono BA.size); have K1 := six_in s1 p1; have l1 := kept slA g; clear x0 g))
      | (go_at_call 13; first
          | ((with_reducible refine (cpa _ _ _ (v1.alloc (.cells #[.int .i64 draw] 2))).mono ?_); rintro e v2 ⟨rfl, x0, x1, g⟩; have y1 : v2.heap[v1.heap.size + 1]? = some (.cells #[.int .i64 now] 2 (0, 0)) := (by simpa using x0); have y2 : v2.heap[v1.heap.size + 1 + 1]? = some (.cells #[.slice (some ⟨v1.heap.size, 0, none⟩) 1 1] 61 (0, 0)) := (by simpa using x1); have s2 := kept s1a g; have p2 := kept p1a g; have r2 := kept r1a g; have y0b := kept y0a g; have l2 := kept l1 g; have B2 := B1a.trans (g.mono B1a.size); have K3 := six_in s2 p2; have K4 := six_in (laid (.cells #[.func (.func 23) #[] #[.pointer (some ⟨w1.heap.size, 0, none⟩)], .func (.func 24) #[] #[.pointer (some ⟨v1.heap.size + 1, 0, none⟩), .pointer (some ⟨v1.heap.size + 1 + 1, 0, none⟩)]] 41) s2) (laid (.cells #[.func (.func 23) #[] #[.pointer (some ⟨w1.heap.size, 0, none⟩)], .func (.func 24) #[] #[.pointer (some ⟨v1.heap.size + 1, 0, none⟩), .pointer (some ⟨v1.heap.size + 1 + 1, 0, none⟩)]] 41) p2); clear x0 x1 g)
          | ((with_reducible refine (cpa _ _ _ v1).mono ?_); rintro e v2 ⟨rfl, x0, x1, g⟩; have y1 : v2.heap[v1.heap.size]? = some (.cells #[.int .i64 now] 2 (0, 0)) := x0; have y2 : v2.heap[v1.heap.size + 1]? = some (.cells #[.slice (some ⟨w1.heap.size, 0, none⟩) 1 1] 61 (0, 0)) := x1; have s2 := kept s1 g; have p2 := kept p1 g; have r2 := kept r1 g; have y0b := kept y0 g; have l2 := kept l1 g; have B2 := B1.trans (g.mono B1.size); have K3 := six_in s2 p2; have K4 := six_in (laid (.cells #[.func (.func 23) #[] #[.pointer (some ⟨w1.heap.size + 1, 0, none⟩)], .func (.func 24) #[] #[.pointer (some ⟨v1.heap.size, 0, none⟩), .pointer (some ⟨v1.heap.size + 1, 0, none⟩)]] 41) s2) (laid (.cells #[.func (.func 23) #[] #[.pointer (some ⟨w1.heap.size + 1, 0, none⟩)], .func (.func 24) #[] #[.pointer (some ⟨v1.heap.size, 0, none⟩), .pointer (some ⟨v1.heap.size + 1, 0, none⟩)]] 41) p2); clear x0 x1 g))
      | (first
          | (go_at_call 10; refine (c2 _ _ _ _ _ _ _ _ (heap_alloc_new _ _) (laid _ y0b) (laid _ y1) (laid _ y2) (laid _ l2)).mono ?_; rintro e vb ⟨rfl, gb⟩; have rb := kept (laid (.cells #[.func (.func 23) #[] #[.pointer (some ⟨w1.heap.size, 0, none⟩)], .func (.func 24) #[] #[.pointer (some ⟨v1.heap.size + 1, 0, none⟩), .pointer (some ⟨v1.heap.size + 1 + 1, 0, none⟩)]] 41) r2) gb; have Bb := (B2.alloc B2.size (.cells #[.func (.func 23) #[] #[.pointer (some ⟨w1.heap.size, 0, none⟩)], .func (.func 24) #[] #[.pointer (some ⟨v1.heap.size + 1, 0, none⟩), .pointer (some ⟨v1.heap.size + 1 + 1, 0, none⟩)]] 41)).trans (gb.mono (B2.alloc B2.size (.cells #[.func (.func 23) #[] #[.pointer (some ⟨w1.heap.size, 0, none⟩)], .func (.func 24) #[] #[.pointer (some ⟨v1.heap.size + 1, 0, none⟩), .pointer (some ⟨v1.heap.size + 1 + 1, 0, none⟩)]] 41)).size); have ⟨q0, q1, q2, q3, q4⟩ := five_in rb; have fz := five_thaw rb; have n5 := new5 (.int .u8 0) (.int .i64 p.minpoll) (.int .i64 p.minpoll) (.int .i64 p.burst) (.int .i64 r) rb; have B5 := below5 (.int .u8 0) (.int .i64 p.minpoll) (.int .i64 p.minpoll) (.int .i64 p.burst) (.int .i64 r) Bb (show w.heap.size ≤ w.heap.size + 1 by omega); have KX := six_in (far5 (.int .u8 0) (.int .i64 p.minpoll) (.int .i64 p.minpoll) (.int .i64 p.burst) (.int .i64 r) (show w.heap.size + 1 + 1 ≠ w.heap.size + 1 by omega) (kept (laid (.cells #[.func (.func 23) #[] #[.pointer (some ⟨w1.heap.size, 0, none⟩)], .func (.func 24) #[] #[.pointer (some ⟨v1.heap.size + 1, 0, none⟩), .pointer (some ⟨v1.heap.size + 1 + 1, 0, none⟩)]] 41) s2) gb)) (far5 (.int .u8 0) (.int .i64 p.minpoll) (.int .i64 p.minpoll) (.int .i64 p.burst) (.int .i64 r) (show w.heap.size ≠ w.heap.size + 1 by omega) (kept (laid (.cells #[.func (.func 23) #[] #[.pointer (some ⟨w1.heap.size, 0, none⟩)], .func (.func 24) #[] #[.pointer (some ⟨v1.heap.size + 1, 0, none⟩), .pointer (some ⟨v1.heap.size + 1 + 1, 0, none⟩)]] 41) p2) gb)); have KY := six_in (kept (laid (.cells #[.func (.func 23) #[] #[.pointer (some ⟨w1.heap.size, 0, none⟩)], .func (.func 24) #[] #[.pointer (some ⟨v1.heap.size + 1, 0, none⟩), .pointer (some ⟨v1.heap.size + 1 + 1, 0, none⟩)]] 41) s2) gb) (kept (laid (.cells #[.func (.func 23) #[] #[.pointer (some ⟨w1.heap.size, 0, none⟩)], .func (.func 24) #[] #[.pointer (some ⟨v1.heap.size + 1, 0, none⟩), .pointer (some ⟨v1.heap.size + 1 + 1, 0, none⟩)]] 41) p2) gb))
          | (go_at_call 10; refine (c2 _ _ _ _ _ _ _ _ (heap_alloc_new _ _) (laid _ y0b) (laid _ y1) (laid _ y2) (laid _ l2)).mono ?_; rintro e vb ⟨rfl, gb⟩; have rb := kept (laid (.cells #[.func (.func 23) #[] #[.pointer (some ⟨w1.heap.size + 1, 0, none⟩)], .func (.func 24) #[] #[.pointer (some ⟨v1.heap.size, 0, none⟩), .pointer (some ⟨v1.heap.size + 1, 0, none⟩)]] 41) r2) gb; have Bb := (B2.alloc B2.size (.cells #[.func (.func 23) #[] #[.pointer (some ⟨w1.heap.size + 1, 0, none⟩)], .func (.func 24) #[] #[.pointer (some ⟨v1.heap.size, 0, none⟩), .pointer (some ⟨v1.heap.size + 1, 0, none⟩)]] 41)).trans (gb.mono (B2.alloc B2.size (.cells #[.func (.func 23) #[] #[.pointer (some ⟨w1.heap.size + 1, 0, none⟩)], .func (.func 24) #[] #[.pointer (some ⟨v1.heap.size, 0, none⟩), .pointer (some ⟨v1.heap.size + 1, 0, none⟩)]] 41)).size); have ⟨q0, q1, q2, q3, q4⟩ := five_in rb; have fz := five_thaw rb; have n5 := new5 (.int .u8 0) (.int .i64 p.minpoll) (.int .i64 p.minpoll) (.int .i64 p.burst) (.int .i64 r) rb; have B5 := below5 (.int .u8 0) (.int .i64 p.minpoll) (.int .i64 p.minpoll) (.int .i64 p.burst) (.int .i64 r) Bb (show w.heap.size ≤ w.heap.size + 1 by omega); have KX := six_in (far5 (.int .u8 0) (.int .i64 p.minpoll) (.int .i64 p.minpoll) (.int .i64 p.burst) (.int .i64 r) (show w.heap.size + 1 + 1 ≠ w.heap.size + 1 by omega) (kept (laid (.cells #[.func (.func 23) #[] #[.pointer (some ⟨w1.heap.size + 1, 0, none⟩)], .func (.func 24) #[] #[.pointer (some ⟨v1.heap.size, 0, none⟩), .pointer (some ⟨v1.heap.size + 1, 0, none⟩)]] 41) s2) gb)) (far5 (.int .u8 0) (.int .i64 p.minpoll) (.int .i64 p.minpoll) (.int .i64 p.burst) (.int .i64 r) (show w.heap.size ≠ w.heap.size + 1 by omega) (kept (laid (.cells #[.func (.func 23) #[] #[.pointer (some ⟨w1.heap.size + 1, 0, none⟩)], .func (.func 24) #[] #[.pointer (some ⟨v1.heap.size, 0, none⟩), .pointer (some ⟨v1.heap.size + 1, 0, none⟩)]] 41) p2) gb)); have KY := six_in (kept (laid (.cells #[.func (.func 23) #[] #[.pointer (some ⟨w1.heap.size + 1, 0, none⟩)], .func (.func 24) #[] #[.pointer (some ⟨v1.heap.size, 0, none⟩), .pointer (some ⟨v1.heap.size + 1, 0, none⟩)]] 41) s2) gb) (kept (laid (.cells #[.func (.func 23) #[] #[.pointer (some ⟨w1.heap.size + 1, 0, none⟩)], .func (.func 24) #[] #[.pointer (some ⟨v1.heap.size, 0, none⟩), .pointer (some ⟨v1.heap.size + 1, 0, none⟩)]] 41) p2) gb))))
  all_goals (
    go_wp2_with fail
    obtain ⟨f0, f1, f2, f3, f4⟩ := five_in n5
    refine bodyPost_ret (v := .agg #[.int .u8 0, .int .i64 p.minpoll, .int .i64 p.minpoll, .int .i64 p.burst, .int .i64 r]) ?_ rfl ?_
    · simp [results, Tryz.results17, go_sem, f0, f1, f2, f3, f4]
    · exact ⟨rfl, B5⟩)
end Go.Proofs.YtfangllkfcmefaaGreat.W
