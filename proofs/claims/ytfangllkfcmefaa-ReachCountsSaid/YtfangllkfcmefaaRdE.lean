/- Layer 11's own code, walked: what becomes of a state. (Written by wip/genRdE.py.) -/
import Derived.Test.YtfangllkfcmefaaRdD
namespace Go.Proofs.Ytfangllkfcmefaa.W
open Go.RowKit Go.Sort
set_option linter.unusedVariables false
set_option linter.unusedSimpArgs false
theorem seven_in {w : World} {b c d : Nat} {s : Rs} {x y : Value} {t u v : TypeId} (h : w.heap[b]? = some (.cells (rsC s) t (0, 0))) (g : w.heap[c]? = some (.cells #[x] u (0, 0))) (k : w.heap[d]? = some (.cells #[y] v (0, 0))) :
    w.cell? ⟨b, 0, none⟩ = some (.int .u8 s.reg) ∧ w.cell? ⟨b, 1, none⟩ = some (.int .i64 s.host) ∧ w.cell? ⟨b, 2, none⟩ = some (.int .i64 s.peer) ∧ w.cell? ⟨b, 3, none⟩ = some (.int .i64 s.burst) ∧ w.cell? ⟨b, 4, none⟩ = some (.int .i64 s.next) ∧ w.cell? ⟨c, 0, none⟩ = some x ∧ w.cell? ⟨d, 0, none⟩ = some y := by
  refine ⟨?_, ?_, ?_, ?_, ?_, ?_, ?_⟩ <;> first | (simp [World.cell?, h]; done) | (simp [World.cell?, g]; done) | simp [World.cell?, k]
theorem makes_doubting_any (p : Pm) (s : Rs) (y : Rs) (bp : Nat) (w : World) (hp : w.heap[bp]? = some (.cells (pmC p) 26 (0, 0))) (c : ∀ w1 : World, w1.heap[bp]? = some (.cells (pmC p) 26 (0, 0)) → Calls Try.prog 35 #[s.val, .pointer (some ⟨bp, 0, none⟩)] w1 fun e w' => e = .returned y.val ∧ Below w1.heap.size w1 w') : Makes 35 s y #[.pointer (some ⟨bp, 0, none⟩)] w :=
  ⟨Try.call35, fun w1 h => c w1 (kept hp h)⟩
set_option maxRecDepth 100000 in
set_option maxHeartbeats 6400000 in
theorem gheard_any (p : Pm) (s : Rs) (st : s.Typed) (n : Int) (w : World) :
    Calls Try.prog 11 #[p.val, s.val, .int .i64 n] w fun e w' => e = .returned (heardS p s n).val ∧ Below w.heap.size w w' := by
  have hA : Below w.heap.size w (((w.alloc (.cells (pmC p) 26)).alloc (.cells (rsC s) 23)).alloc (.cells rsZ 23)) := ((((Below.refl _ _).alloc (Nat.le_refl _) _).alloc (by simp) _).alloc (by simp; omega) _)
  have zp : (((w.alloc (.cells (pmC p) 26)).alloc (.cells (rsC s) 23)).alloc (.cells rsZ 23)).heap[w.heap.size]? = some (.cells (pmC p) 26 (0, 0)) := (laid _ (laid _ (heap_alloc_new w _)))
  have zs : (((w.alloc (.cells (pmC p) 26)).alloc (.cells (rsC s) 23)).alloc (.cells rsZ 23)).heap[w.heap.size + 1]? = some (.cells (rsC s) 23 (0, 0)) := (laid _ (by have := heap_alloc_new (w.alloc (.cells (pmC p) 26)) (.cells (rsC s) 23); simpa [World.size_alloc] using this))
  have zr : (((w.alloc (.cells (pmC p) 26)).alloc (.cells (rsC s) 23)).alloc (.cells rsZ 23)).heap[w.heap.size + 1 + 1]? = some (.cells rsZ 23 (0, 0)) := (by have := heap_alloc_new ((w.alloc (.cells (pmC p) 26)).alloc (.cells (rsC s) 23)) (.cells rsZ 23); simpa [World.size_alloc] using this)
  have hz : heardS p s n = Rs.mk (if s.reg % 2 = 0 then s.reg + 1 else s.reg) s.host (heldI p n) s.burst s.next := rfl
  have m1 := fun w1 => makes_answering s st w1
  have m2 := fun bp bn w1 hp hn => makes_peering p (Rs.mk (if s.reg % 2 = 0 then s.reg + 1 else s.reg) s.host s.peer s.burst s.next) n bp bn w1 hp hn
  have c1 := gpeering p n
  dsimp only at m2
  rw [hz]
  generalize (if s.reg % 2 = 0 then s.reg + 1 else s.reg) = rg at *
  generalize heldI p n = hl at *
  have c2 := fun (b cap : Nat) (w1 : World) (x y : Nat) (hb : w1.heap[b]? = some (.cells #[.func (.func 26) #[] #[], .func (.func 31) #[] #[.pointer (some ⟨x, 0, none⟩), .pointer (some ⟨y, 0, none⟩)]] 51 (0, 0))) (hp : w1.heap[x]? = some (.cells (pmC p) 26 (0, 0))) (hn : w1.heap[y]? = some (.cells #[.int .i64 n] 3 (0, 0))) => gbehind2 s _ _ _ _ _ _ b cap w1 hb (m1 w1) (m2 x y w1 hp hn)
  clear m1 m2 hz
  unfold Pm.val Rs.val at *
  (try dsimp only at *)
  go_enter Try.func11, Try.ntmps11
  go_upto_region 1 with fail
  generalize (((w.alloc (.cells (pmC p) 26)).alloc (.cells (rsC s) 23)).alloc (.cells rsZ 23)) = w1 at *
  have zp' : w1.drew.heap[w.heap.size]? = some (.cells (pmC p) 26 (0, 0)) := zp
  have zs' : w1.drew.heap[w.heap.size + 1]? = some (.cells (rsC s) 23 (0, 0)) := zs
  have zr' : w1.drew.heap[w.heap.size + 1 + 1]? = some (.cells rsZ 23 (0, 0)) := zr
  have Bd : Below w.heap.size w w1.drew := hA.drew
  have K0 := seventeen zp' zs'
  go_region_held3 (fun w' => w'.cell? ⟨w.heap.size, 0, none⟩ = some (.int .i64 p.step) ∧ w'.cell? ⟨w.heap.size, 1, none⟩ = some (.int .i64 p.watch) ∧ w'.cell? ⟨w.heap.size, 2, none⟩ = some (.int .i64 p.panic) ∧ w'.cell? ⟨w.heap.size, 3, none⟩ = some (.int .i64 p.maxrate) ∧ w'.cell? ⟨w.heap.size, 4, none⟩ = some (.int .i64 p.phi) ∧ w'.cell? ⟨w.heap.size, 5, none⟩ = some (.int .i64 p.maxdist) ∧ w'.cell? ⟨w.heap.size, 6, none⟩ = some (.int .i64 p.gate) ∧ w'.cell? ⟨w.heap.size, 7, none⟩ = some (.int .i64 p.minpoll) ∧ w'.cell? ⟨w.heap.size, 8, none⟩ = some (.int .i64 p.maxpoll) ∧ w'.cell? ⟨w.heap.size, 9, none⟩ = some (.int .i64 p.burst) ∧ w'.cell? ⟨w.heap.size, 10, none⟩ = some (.int .i64 p.minsane) ∧ w'.cell? ⟨w.heap.size, 11, none⟩ = some (.int .i64 p.minleft) ∧ w'.cell? ⟨w.heap.size + 1, 0, none⟩ = some (.int .u8 s.reg) ∧ w'.cell? ⟨w.heap.size + 1, 1, none⟩ = some (.int .i64 s.host) ∧ w'.cell? ⟨w.heap.size + 1, 2, none⟩ = some (.int .i64 s.peer) ∧ w'.cell? ⟨w.heap.size + 1, 3, none⟩ = some (.int .i64 s.burst) ∧ w'.cell? ⟨w.heap.size + 1, 4, none⟩ = some (.int .i64 s.next))
    (with_reducible assumption)
    (first
      | (go_at_call 20; (with_reducible refine (c1 _).mono ?_); rintro e v1 ⟨rfl, x0, x1, g⟩; have y0 : v1.heap[w1.heap.size]? = some (.cells (pmC p) 26 (0, 0)) := x0; have y1 : v1.heap[w1.heap.size + 1]? = some (.cells #[.int .i64 n] 3 (0, 0)) := x1; clear x0 x1; have p1 := kept zp' g; have s1 := kept zs' g; have r1 := kept zr' g; have B1 := Bd.trans (g.mono Bd.size); clear g; have K1 := seventeen p1 s1; have K2 := seventeen (laid (.cells #[.func (.func 26) #[] #[], .func (.func 31) #[] #[.pointer (some ⟨w1.heap.size, 0, none⟩), .pointer (some ⟨w1.heap.size + 1, 0, none⟩)]] 51) p1) (laid (.cells #[.func (.func 26) #[] #[], .func (.func 31) #[] #[.pointer (some ⟨w1.heap.size, 0, none⟩), .pointer (some ⟨w1.heap.size + 1, 0, none⟩)]] 51) s1))
      | (go_at_call 18; refine (c2 _ _ _ _ _ (heap_alloc_new _ _) (laid _ y0) (laid _ y1)).mono ?_; rintro e vb ⟨rfl, gb⟩; have rb := kept (laid (.cells #[.func (.func 26) #[] #[], .func (.func 31) #[] #[.pointer (some ⟨w1.heap.size, 0, none⟩), .pointer (some ⟨w1.heap.size + 1, 0, none⟩)]] 51) r1) gb; have Bb := (B1.alloc B1.size (.cells #[.func (.func 26) #[] #[], .func (.func 31) #[] #[.pointer (some ⟨w1.heap.size, 0, none⟩), .pointer (some ⟨w1.heap.size + 1, 0, none⟩)]] 51)).trans (gb.mono (B1.alloc B1.size (.cells #[.func (.func 26) #[] #[], .func (.func 31) #[] #[.pointer (some ⟨w1.heap.size, 0, none⟩), .pointer (some ⟨w1.heap.size + 1, 0, none⟩)]] 51)).size); have ⟨q0, q1, q2, q3, q4⟩ := five_in rb; have fz := five_thaw rb; have n5 := new5 (.int .u8 rg) (.int .i64 s.host) (.int .i64 hl) (.int .i64 s.burst) (.int .i64 s.next) rb; have B5 := below5 (.int .u8 rg) (.int .i64 s.host) (.int .i64 hl) (.int .i64 s.burst) (.int .i64 s.next) Bb (show w.heap.size ≤ w.heap.size + 1 + 1 by omega); have KX := seventeen (far5 (.int .u8 rg) (.int .i64 s.host) (.int .i64 hl) (.int .i64 s.burst) (.int .i64 s.next) (show w.heap.size ≠ w.heap.size + 1 + 1 by omega) (kept (laid (.cells #[.func (.func 26) #[] #[], .func (.func 31) #[] #[.pointer (some ⟨w1.heap.size, 0, none⟩), .pointer (some ⟨w1.heap.size + 1, 0, none⟩)]] 51) p1) gb)) (far5 (.int .u8 rg) (.int .i64 s.host) (.int .i64 hl) (.int .i64 s.burst) (.int .i64 s.next) (show w.heap.size + 1 ≠ w.heap.size + 1 + 1 by omega) (kept (laid (.cells #[.func (.func 26) #[] #[], .func (.func 31) #[] #[.pointer (some ⟨w1.heap.size, 0, none⟩), .pointer (some ⟨w1.heap.size + 1, 0, none⟩)]] 51) s1) gb)); have KY := seventeen (kept (laid (.cells #[.func (.func 26) #[] #[], .func (.func 31) #[] #[.pointer (some ⟨w1.heap.size, 0, none⟩), .pointer (some ⟨w1.heap.size + 1, 0, none⟩)]] 51) p1) gb) (kept (laid (.cells #[.func (.func 26) #[] #[], .func (.func 31) #[] #[.pointer (some ⟨w1.heap.size, 0, none⟩), .pointer (some ⟨w1.heap.size + 1, 0, none⟩)]] 51) s1) gb)))
  go_wp2_with fail
  obtain ⟨f0, f1, f2, f3, f4⟩ := five_in n5
  refine bodyPost_ret (v := .agg #[.int .u8 rg, .int .i64 s.host, .int .i64 hl, .int .i64 s.burst, .int .i64 s.next]) ?_ rfl ?_
  · simp [results, Try.results11, go_sem, f0, f1, f2, f3, f4]
  · exact ⟨rfl, B5⟩
set_option maxRecDepth 100000 in
set_option maxHeartbeats 6400000 in
theorem gslow_any (p : Pm) (s : Rs) (st : s.Typed) (w : World) :
    Calls Try.prog 8 #[p.val, s.val] w fun e w' => e = .returned (slowS p s).val ∧ Below w.heap.size w w' := by
  have hA : Below w.heap.size w (((w.alloc (.cells (pmC p) 26)).alloc (.cells (rsC s) 23)).alloc (.cells rsZ 23)) := ((((Below.refl _ _).alloc (Nat.le_refl _) _).alloc (by simp) _).alloc (by simp; omega) _)
  have zp : (((w.alloc (.cells (pmC p) 26)).alloc (.cells (rsC s) 23)).alloc (.cells rsZ 23)).heap[w.heap.size]? = some (.cells (pmC p) 26 (0, 0)) := (laid _ (laid _ (heap_alloc_new w _)))
  have zs : (((w.alloc (.cells (pmC p) 26)).alloc (.cells (rsC s) 23)).alloc (.cells rsZ 23)).heap[w.heap.size + 1]? = some (.cells (rsC s) 23 (0, 0)) := (laid _ (by have := heap_alloc_new (w.alloc (.cells (pmC p) 26)) (.cells (rsC s) 23); simpa [World.size_alloc] using this))
  have zr : (((w.alloc (.cells (pmC p) 26)).alloc (.cells (rsC s) 23)).alloc (.cells rsZ 23)).heap[w.heap.size + 1 + 1]? = some (.cells rsZ 23 (0, 0)) := (by have := heap_alloc_new ((w.alloc (.cells (pmC p) 26)).alloc (.cells (rsC s) 23)) (.cells rsZ 23); simpa [World.size_alloc] using this)
  have hm := st.host
  have hm' := st.peer
  obtain ⟨mx, hmx⟩ : ∃ mx, max s.host s.peer = mx := ⟨_, rfl⟩
  have hmb : -9223372036854775808 ≤ mx ∧ mx ≤ 9223372036854775807 := by omega
  have cm := gmore_any mx hmb.1 hmb.2
  have hz : slowS p s = Rs.mk s.reg (heldI p (moreI mx)) (heldI p (moreI mx)) 0 s.next := by unfold slowS; rw [hmx]
  rw [hz]
  clear hz
  generalize moreI mx = m at *
  have ch := ghosting p m
  have cp := gpeering p m
  have cb := gbursting 0
  have m1 := makes_hosting p s m
  have m2 := makes_peering p (Rs.mk s.reg (heldI p m) s.peer s.burst s.next) m
  have m3 := makes_bursting (Rs.mk s.reg (heldI p m) (heldI p m) s.burst s.next) 0
  dsimp only at m1 m2 m3
  generalize heldI p m = hl at *
  have c2 := fun (b cap : Nat) (w1 : World) (x y x' y' z : Nat) (hb : w1.heap[b]? = some (.cells #[.func (.func 30) #[] #[.pointer (some ⟨x, 0, none⟩), .pointer (some ⟨y, 0, none⟩)], .func (.func 31) #[] #[.pointer (some ⟨x', 0, none⟩), .pointer (some ⟨y', 0, none⟩)], .func (.func 32) #[] #[.pointer (some ⟨z, 0, none⟩)]] 51 (0, 0))) (hp : w1.heap[x]? = some (.cells (pmC p) 26 (0, 0))) (hn : w1.heap[y]? = some (.cells #[.int .i64 m] 3 (0, 0))) (hp' : w1.heap[x']? = some (.cells (pmC p) 26 (0, 0))) (hn' : w1.heap[y']? = some (.cells #[.int .i64 m] 3 (0, 0))) (hz : w1.heap[z]? = some (.cells #[.int .i64 0] 3 (0, 0))) => gbehind3 s _ _ _ _ _ _ _ _ _ b cap w1 hb (m1 x y w1 hp hn) (m2 x' y' w1 hp' hn') (m3 z w1 hz)
  clear m1 m2 m3 hm hm' hmb
  unfold Pm.val Rs.val at *
  (try dsimp only at *)
  go_enter Try.func8, Try.ntmps8
  go_upto_region 1 with fail
  generalize (((w.alloc (.cells (pmC p) 26)).alloc (.cells (rsC s) 23)).alloc (.cells rsZ 23)) = w1 at *
  obtain ⟨a0, a1, a2, a3, a4⟩ := five_in zs
  have HH := Lib.hid (And.intro zp (And.intro zs (And.intro zr hA)))
  have hmax := fun ts t => run_maxI s.host s.peer mx hmx ts t
  clear zp zs zr hA hmx
  go_wp2_with fail
  (with_reducible refine (cm _).mono ?_)
  rintro e wq ⟨rfl, rfl⟩
  clear hmax
  obtain ⟨zp, zs, zr, hA⟩ := HH.out
  clear a0 a1 a2 a3 a4 HH
  go_upto_region 2 with fail
  have zp' : w1.drew.heap[w.heap.size]? = some (.cells (pmC p) 26 (0, 0)) := zp
  have zs' : w1.drew.heap[w.heap.size + 1]? = some (.cells (rsC s) 23 (0, 0)) := zs
  have zr' : w1.drew.heap[w.heap.size + 1 + 1]? = some (.cells rsZ 23 (0, 0)) := zr
  have Bd : Below w.heap.size w w1.drew := hA.drew
  have K0 := seventeen zp' zs'
  go_region_held3 (fun w' => w'.cell? ⟨w.heap.size, 0, none⟩ = some (.int .i64 p.step) ∧ w'.cell? ⟨w.heap.size, 1, none⟩ = some (.int .i64 p.watch) ∧ w'.cell? ⟨w.heap.size, 2, none⟩ = some (.int .i64 p.panic) ∧ w'.cell? ⟨w.heap.size, 3, none⟩ = some (.int .i64 p.maxrate) ∧ w'.cell? ⟨w.heap.size, 4, none⟩ = some (.int .i64 p.phi) ∧ w'.cell? ⟨w.heap.size, 5, none⟩ = some (.int .i64 p.maxdist) ∧ w'.cell? ⟨w.heap.size, 6, none⟩ = some (.int .i64 p.gate) ∧ w'.cell? ⟨w.heap.size, 7, none⟩ = some (.int .i64 p.minpoll) ∧ w'.cell? ⟨w.heap.size, 8, none⟩ = some (.int .i64 p.maxpoll) ∧ w'.cell? ⟨w.heap.size, 9, none⟩ = some (.int .i64 p.burst) ∧ w'.cell? ⟨w.heap.size, 10, none⟩ = some (.int .i64 p.minsane) ∧ w'.cell? ⟨w.heap.size, 11, none⟩ = some (.int .i64 p.minleft) ∧ w'.cell? ⟨w.heap.size + 1, 0, none⟩ = some (.int .u8 s.reg) ∧ w'.cell? ⟨w.heap.size + 1, 1, none⟩ = some (.int .i64 s.host) ∧ w'.cell? ⟨w.heap.size + 1, 2, none⟩ = some (.int .i64 s.peer) ∧ w'.cell? ⟨w.heap.size + 1, 3, none⟩ = some (.int .i64 s.burst) ∧ w'.cell? ⟨w.heap.size + 1, 4, none⟩ = some (.int .i64 s.next))
    (with_reducible assumption)
    (first
      | (go_at_call 19; (with_reducible refine (ch _).mono ?_); rintro e v1 ⟨rfl, x0, x1, g⟩; have y0 : v1.heap[w1.heap.size]? = some (.cells (pmC p) 26 (0, 0)) := x0; have y1 : v1.heap[w1.heap.size + 1]? = some (.cells #[.int .i64 m] 3 (0, 0)) := x1; clear x0 x1; have p1 := kept zp' g; have s1 := kept zs' g; have r1 := kept zr' g; have B1 := Bd.trans (g.mono Bd.size); clear g; have K1 := seventeen p1 s1)
      | (go_at_call 20; (with_reducible refine (cp _).mono ?_); rintro e v2 ⟨rfl, x0, x1, g⟩; have y2 : v2.heap[v1.heap.size]? = some (.cells (pmC p) 26 (0, 0)) := x0; have y3 : v2.heap[v1.heap.size + 1]? = some (.cells #[.int .i64 m] 3 (0, 0)) := x1; clear x0 x1; have p2 := kept p1 g; have s2 := kept s1 g; have r2 := kept r1 g; have y0a := kept y0 g; have y1a := kept y1 g; have B2 := B1.trans (g.mono B1.size); clear g; have K2 := seventeen p2 s2)
      | (go_at_call 21; (with_reducible refine (cb _).mono ?_); rintro e v3 ⟨rfl, x0, g⟩; have y4 : v3.heap[v2.heap.size]? = some (.cells #[.int .i64 0] 3 (0, 0)) := x0; clear x0; have p3 := kept p2 g; have s3 := kept s2 g; have r3 := kept r2 g; have y0b := kept y0a g; have y1b := kept y1a g; have y2b := kept y2 g; have y3b := kept y3 g; have B3 := B2.trans (g.mono B2.size); clear g; have K3 := seventeen p3 s3; have K4 := seventeen (laid (.cells #[.func (.func 30) #[] #[.pointer (some ⟨w1.heap.size, 0, none⟩), .pointer (some ⟨w1.heap.size + 1, 0, none⟩)], .func (.func 31) #[] #[.pointer (some ⟨v1.heap.size, 0, none⟩), .pointer (some ⟨v1.heap.size + 1, 0, none⟩)], .func (.func 32) #[] #[.pointer (some ⟨v2.heap.size, 0, none⟩)]] 51) p3) (laid (.cells #[.func (.func 30) #[] #[.pointer (some ⟨w1.heap.size, 0, none⟩), .pointer (some ⟨w1.heap.size + 1, 0, none⟩)], .func (.func 31) #[] #[.pointer (some ⟨v1.heap.size, 0, none⟩), .pointer (some ⟨v1.heap.size + 1, 0, none⟩)], .func (.func 32) #[] #[.pointer (some ⟨v2.heap.size, 0, none⟩)]] 51) s3))
      | (go_at_call 18; refine (c2 _ _ _ _ _ _ _ _ (heap_alloc_new _ _) (laid _ y0b) (laid _ y1b) (laid _ y2b) (laid _ y3b) (laid _ y4)).mono ?_; rintro e vb ⟨rfl, gb⟩; have rb := kept (laid (.cells #[.func (.func 30) #[] #[.pointer (some ⟨w1.heap.size, 0, none⟩), .pointer (some ⟨w1.heap.size + 1, 0, none⟩)], .func (.func 31) #[] #[.pointer (some ⟨v1.heap.size, 0, none⟩), .pointer (some ⟨v1.heap.size + 1, 0, none⟩)], .func (.func 32) #[] #[.pointer (some ⟨v2.heap.size, 0, none⟩)]] 51) r3) gb; have Bb := (B3.alloc B3.size (.cells #[.func (.func 30) #[] #[.pointer (some ⟨w1.heap.size, 0, none⟩), .pointer (some ⟨w1.heap.size + 1, 0, none⟩)], .func (.func 31) #[] #[.pointer (some ⟨v1.heap.size, 0, none⟩), .pointer (some ⟨v1.heap.size + 1, 0, none⟩)], .func (.func 32) #[] #[.pointer (some ⟨v2.heap.size, 0, none⟩)]] 51)).trans (gb.mono (B3.alloc B3.size (.cells #[.func (.func 30) #[] #[.pointer (some ⟨w1.heap.size, 0, none⟩), .pointer (some ⟨w1.heap.size + 1, 0, none⟩)], .func (.func 31) #[] #[.pointer (some ⟨v1.heap.size, 0, none⟩), .pointer (some ⟨v1.heap.size + 1, 0, none⟩)], .func (.func 32) #[] #[.pointer (some ⟨v2.heap.size, 0, none⟩)]] 51)).size); have ⟨q0, q1, q2, q3, q4⟩ := five_in rb; have fz := five_thaw rb; have n5 := new5 (.int .u8 s.reg) (.int .i64 hl) (.int .i64 hl) (.int .i64 0) (.int .i64 s.next) rb; have B5 := below5 (.int .u8 s.reg) (.int .i64 hl) (.int .i64 hl) (.int .i64 0) (.int .i64 s.next) Bb (show w.heap.size ≤ w.heap.size + 1 + 1 by omega); have KX := seventeen (far5 (.int .u8 s.reg) (.int .i64 hl) (.int .i64 hl) (.int .i64 0) (.int .i64 s.next) (show w.heap.size ≠ w.heap.size + 1 + 1 by omega) (kept (laid (.cells #[.func (.func 30) #[] #[.pointer (some ⟨w1.heap.size, 0, none⟩), .pointer (some ⟨w1.heap.size + 1, 0, none⟩)], .func (.func 31) #[] #[.pointer (some ⟨v1.heap.size, 0, none⟩), .pointer (some ⟨v1.heap.size + 1, 0, none⟩)], .func (.func 32) #[] #[.pointer (some ⟨v2.heap.size, 0, none⟩)]] 51) p3) gb)) (far5 (.int .u8 s.reg) (.int .i64 hl) (.int .i64 hl) (.int .i64 0) (.int .i64 s.next) (show w.heap.size + 1 ≠ w.heap.size + 1 + 1 by omega) (kept (laid (.cells #[.func (.func 30) #[] #[.pointer (some ⟨w1.heap.size, 0, none⟩), .pointer (some ⟨w1.heap.size + 1, 0, none⟩)], .func (.func 31) #[] #[.pointer (some ⟨v1.heap.size, 0, none⟩), .pointer (some ⟨v1.heap.size + 1, 0, none⟩)], .func (.func 32) #[] #[.pointer (some ⟨v2.heap.size, 0, none⟩)]] 51) s3) gb)); have KY := seventeen (kept (laid (.cells #[.func (.func 30) #[] #[.pointer (some ⟨w1.heap.size, 0, none⟩), .pointer (some ⟨w1.heap.size + 1, 0, none⟩)], .func (.func 31) #[] #[.pointer (some ⟨v1.heap.size, 0, none⟩), .pointer (some ⟨v1.heap.size + 1, 0, none⟩)], .func (.func 32) #[] #[.pointer (some ⟨v2.heap.size, 0, none⟩)]] 51) p3) gb) (kept (laid (.cells #[.func (.func 30) #[] #[.pointer (some ⟨w1.heap.size, 0, none⟩), .pointer (some ⟨w1.heap.size + 1, 0, none⟩)], .func (.func 31) #[] #[.pointer (some ⟨v1.heap.size, 0, none⟩), .pointer (some ⟨v1.heap.size + 1, 0, none⟩)], .func (.func 32) #[] #[.pointer (some ⟨v2.heap.size, 0, none⟩)]] 51) s3) gb)))
  go_wp2_with fail
  obtain ⟨f0, f1, f2, f3, f4⟩ := five_in n5
  refine bodyPost_ret (v := .agg #[.int .u8 s.reg, .int .i64 hl, .int .i64 hl, .int .i64 0, .int .i64 s.next]) ?_ rfl ?_
  · simp [results, Try.results8, go_sem, f0, f1, f2, f3, f4]
  · exact ⟨rfl, B5⟩
set_option maxRecDepth 100000 in
set_option maxHeartbeats 6400000 in
theorem gdoubt1 (p : Pm) (s : Rs) (st : s.Typed) (bp : Nat) (w : World) (hp : w.heap[bp]? = some (.cells (pmC p) 26 (0, 0))) :
    Calls Try.prog 35 #[s.val, .pointer (some ⟨bp, 0, none⟩)] w fun e w' => e = .returned (Rs.mk s.reg (if s.reg % 8 = 0 then heldI p (moreI s.host) else s.host) s.peer s.burst s.next).val ∧ Below w.heap.size w w' := by
  have hA : Below w.heap.size w ((w.alloc (.cells (rsC s) 23)).alloc (.cells rsZ 23)) := (((Below.refl _ _).alloc (Nat.le_refl _) _).alloc (by simp) _)
  have zs : ((w.alloc (.cells (rsC s) 23)).alloc (.cells rsZ 23)).heap[w.heap.size]? = some (.cells (rsC s) 23 (0, 0)) := (laid _ (heap_alloc_new w _))
  have zr : ((w.alloc (.cells (rsC s) 23)).alloc (.cells rsZ 23)).heap[w.heap.size + 1]? = some (.cells rsZ 23 (0, 0)) := (by have := heap_alloc_new (w.alloc (.cells (rsC s) 23)) (.cells rsZ 23); simpa [World.size_alloc] using this)
  have zp : ((w.alloc (.cells (rsC s) 23)).alloc (.cells rsZ 23)).heap[bp]? = some (.cells (pmC p) 26 (0, 0)) := laid _ (laid _ hp)
  have lbp := (Array.getElem?_eq_some_iff.1 hp).1
  have h8 := and_sevenI st.reg.1 st.reg.2
  have cm := gmore_any s.host st.host.1 st.host.2
  clear hp st
  by_cases hq : s.reg % 8 = 0
  · rw [if_pos hq]
    generalize moreI s.host = m at *
    have ch := ghosting p m
    have m1 := makes_hosting p s m
    (try dsimp only at m1)
    generalize heldI p m = hl at *
    have c2 := fun (b cap : Nat) (w1 : World) (x y : Nat) (hb : w1.heap[b]? = some (.cells #[.func (.func 30) #[] #[.pointer (some ⟨x, 0, none⟩), .pointer (some ⟨y, 0, none⟩)]] 51 (0, 0))) (hp : w1.heap[x]? = some (.cells (pmC p) 26 (0, 0))) (hn : w1.heap[y]? = some (.cells #[.int .i64 m] 3 (0, 0))) => gbehind1 s _ _ _ b cap w1 hb (m1 x y w1 hp hn)
    clear m1
    rw [hq] at h8
    have k8 : ((bits .and .u8 s.reg 7) == 0) = true := by rw [h8]; rfl
    have K8 := Lib.hid hq
    clear hq
    unfold Pm.val Rs.val at *
    (try dsimp only at *)
    go_enter Try.func35, Try.ntmps35
    go_upto_region 1 with fail
    generalize ((w.alloc (.cells (rsC s) 23)).alloc (.cells rsZ 23)) = w1 at *
    obtain ⟨a0, a1, a2, a3, a4⟩ := five_in zs
    go_upto_region 3 with fail
    clear a0 a1 a2 a3 a4
    have zp' : w1.drew.heap[bp]? = some (.cells (pmC p) 26 (0, 0)) := zp
    have zs' : w1.drew.heap[w.heap.size]? = some (.cells (rsC s) 23 (0, 0)) := zs
    have zr' : w1.drew.heap[w.heap.size + 1]? = some (.cells rsZ 23 (0, 0)) := zr
    have Bd : Below w.heap.size w w1.drew := hA.drew
    have K0 := seventeen zp' zs'
    go_region_held3 (fun w' => w'.cell? ⟨bp, 0, none⟩ = some (.int .i64 p.step) ∧ w'.cell? ⟨bp, 1, none⟩ = some (.int .i64 p.watch) ∧ w'.cell? ⟨bp, 2, none⟩ = some (.int .i64 p.panic) ∧ w'.cell? ⟨bp, 3, none⟩ = some (.int .i64 p.maxrate) ∧ w'.cell? ⟨bp, 4, none⟩ = some (.int .i64 p.phi) ∧ w'.cell? ⟨bp, 5, none⟩ = some (.int .i64 p.maxdist) ∧ w'.cell? ⟨bp, 6, none⟩ = some (.int .i64 p.gate) ∧ w'.cell? ⟨bp, 7, none⟩ = some (.int .i64 p.minpoll) ∧ w'.cell? ⟨bp, 8, none⟩ = some (.int .i64 p.maxpoll) ∧ w'.cell? ⟨bp, 9, none⟩ = some (.int .i64 p.burst) ∧ w'.cell? ⟨bp, 10, none⟩ = some (.int .i64 p.minsane) ∧ w'.cell? ⟨bp, 11, none⟩ = some (.int .i64 p.minleft) ∧ w'.cell? ⟨w.heap.size, 0, none⟩ = some (.int .u8 s.reg) ∧ w'.cell? ⟨w.heap.size, 1, none⟩ = some (.int .i64 s.host) ∧ w'.cell? ⟨w.heap.size, 2, none⟩ = some (.int .i64 s.peer) ∧ w'.cell? ⟨w.heap.size, 3, none⟩ = some (.int .i64 s.burst) ∧ w'.cell? ⟨w.heap.size, 4, none⟩ = some (.int .i64 s.next))
      (with_reducible assumption)
      (first
        | (go_at_call 17; (with_reducible refine (cm _).mono ?_); rintro e v0 ⟨rfl, rfl⟩)
        | (go_at_call 19; (with_reducible refine (ch _).mono ?_); rintro e v1 ⟨rfl, x0, x1, g⟩; have y0 : v1.heap[w1.heap.size]? = some (.cells (pmC p) 26 (0, 0)) := x0; have y1 : v1.heap[w1.heap.size + 1]? = some (.cells #[.int .i64 m] 3 (0, 0)) := x1; clear x0 x1; have p1 := kept zp' g; have s1 := kept zs' g; have r1 := kept zr' g; have B1 := Bd.trans (g.mono Bd.size); clear g; have K1 := seventeen p1 s1; have K2 := seventeen (laid (.cells #[.func (.func 30) #[] #[.pointer (some ⟨w1.heap.size, 0, none⟩), .pointer (some ⟨w1.heap.size + 1, 0, none⟩)]] 51) p1) (laid (.cells #[.func (.func 30) #[] #[.pointer (some ⟨w1.heap.size, 0, none⟩), .pointer (some ⟨w1.heap.size + 1, 0, none⟩)]] 51) s1))
        | (go_at_call 18; refine (c2 _ _ _ _ _ (heap_alloc_new _ _) (laid _ y0) (laid _ y1)).mono ?_; rintro e vb ⟨rfl, gb⟩; have rb := kept (laid (.cells #[.func (.func 30) #[] #[.pointer (some ⟨w1.heap.size, 0, none⟩), .pointer (some ⟨w1.heap.size + 1, 0, none⟩)]] 51) r1) gb; have Bb := (B1.alloc B1.size (.cells #[.func (.func 30) #[] #[.pointer (some ⟨w1.heap.size, 0, none⟩), .pointer (some ⟨w1.heap.size + 1, 0, none⟩)]] 51)).trans (gb.mono (B1.alloc B1.size (.cells #[.func (.func 30) #[] #[.pointer (some ⟨w1.heap.size, 0, none⟩), .pointer (some ⟨w1.heap.size + 1, 0, none⟩)]] 51)).size); have ⟨q0, q1, q2, q3, q4⟩ := five_in rb; have fz := five_thaw rb; have n5 := new5 (.int .u8 s.reg) (.int .i64 hl) (.int .i64 s.peer) (.int .i64 s.burst) (.int .i64 s.next) rb; have B5 := below5 (.int .u8 s.reg) (.int .i64 hl) (.int .i64 s.peer) (.int .i64 s.burst) (.int .i64 s.next) Bb (show w.heap.size ≤ w.heap.size + 1 by omega); have KX := seventeen (far5 (.int .u8 s.reg) (.int .i64 hl) (.int .i64 s.peer) (.int .i64 s.burst) (.int .i64 s.next) (show bp ≠ w.heap.size + 1 by omega) (kept (laid (.cells #[.func (.func 30) #[] #[.pointer (some ⟨w1.heap.size, 0, none⟩), .pointer (some ⟨w1.heap.size + 1, 0, none⟩)]] 51) p1) gb)) (far5 (.int .u8 s.reg) (.int .i64 hl) (.int .i64 s.peer) (.int .i64 s.burst) (.int .i64 s.next) (show w.heap.size ≠ w.heap.size + 1 by omega) (kept (laid (.cells #[.func (.func 30) #[] #[.pointer (some ⟨w1.heap.size, 0, none⟩), .pointer (some ⟨w1.heap.size + 1, 0, none⟩)]] 51) s1) gb)); have KY := seventeen (kept (laid (.cells #[.func (.func 30) #[] #[.pointer (some ⟨w1.heap.size, 0, none⟩), .pointer (some ⟨w1.heap.size + 1, 0, none⟩)]] 51) p1) gb) (kept (laid (.cells #[.func (.func 30) #[] #[.pointer (some ⟨w1.heap.size, 0, none⟩), .pointer (some ⟨w1.heap.size + 1, 0, none⟩)]] 51) s1) gb)))
    go_wp2_with fail
    obtain ⟨f0, f1, f2, f3, f4⟩ := five_in n5
    refine bodyPost_ret (v := .agg #[.int .u8 s.reg, .int .i64 hl, .int .i64 s.peer, .int .i64 s.burst, .int .i64 s.next]) ?_ rfl ?_
    · simp [results, Try.results35, go_sem, f0, f1, f2, f3, f4]
    · exact ⟨rfl, B5⟩
  · rw [if_neg hq]
    have k8 : ((bits .and .u8 s.reg 7) == 0) = false := by rw [h8, beq_eq_false_iff_ne]; exact hq
    have E1 := fin5 s zr hA (show w.heap.size ≤ w.heap.size + 1 by omega)
    have EE := Lib.hid E1
    have o1 := rs_one s
    clear hq h8 cm E1 hA zp
    unfold Rs.val rsC at *
    (try dsimp only at *)
    go_enter Try.func35, Try.ntmps35
    go_upto_region 1 with fail
    generalize ((w.alloc (.cells (rsC s) 23)).alloc (.cells rsZ 23)) = w1 at *
    obtain ⟨a0, a1, a2, a3, a4⟩ := five_in zs
    go_wp2_with (first | (refine at_load_rs11 rfl _ rfl _ rfl zs rfl ?_) | (refine at_store_rs11 rfl _ _ rfl _ rfl rfl zr rfl rfl o1 ?_))
    obtain ⟨q0, q1, q2, q3, q4⟩ := five_in EE.out.1
    refine bodyPost_ret (v := .agg #[.int .u8 s.reg, .int .i64 s.host, .int .i64 s.peer, .int .i64 s.burst, .int .i64 s.next]) ?_ rfl ?_
    · simp [results, Try.results35, go_sem, q0, q1, q2, q3, q4]
    · exact ⟨rfl, EE.out.2⟩
end Go.Proofs.Ytfangllkfcmefaa.W
