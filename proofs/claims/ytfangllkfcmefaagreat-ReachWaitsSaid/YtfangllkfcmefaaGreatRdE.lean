/- Layer 11's own code, walked: what becomes of a state. (Written by wip/genRdE.py.) -/
import Derived.Test.YtfangllkfcmefaaGreatRdD
namespace Go.Proofs.YtfangllkfcmefaaGreat.W
open Go.RowKit Go.Sort
set_option linter.unusedVariables false
set_option linter.unusedSimpArgs false
theorem seven_in {w : World} {b c d : Nat} {s : Rs} {x y : Value} {t u v : TypeId} (h : w.heap[b]? = some (.cells (rsC s) t (0, 0))) (g : w.heap[c]? = some (.cells #[x] u (0, 0))) (k : w.heap[d]? = some (.cells #[y] v (0, 0))) :
    w.cell? ⟨b, 0, none⟩ = some (.int .u8 s.reg) ∧ w.cell? ⟨b, 1, none⟩ = some (.int .i64 s.host) ∧ w.cell? ⟨b, 2, none⟩ = some (.int .i64 s.peer) ∧ w.cell? ⟨b, 3, none⟩ = some (.int .i64 s.burst) ∧ w.cell? ⟨b, 4, none⟩ = some (.int .i64 s.next) ∧ w.cell? ⟨c, 0, none⟩ = some x ∧ w.cell? ⟨d, 0, none⟩ = some y := by
  refine ⟨?_, ?_, ?_, ?_, ?_, ?_, ?_⟩ <;> first | (simp [World.cell?, h]; done) | (simp [World.cell?, g]; done) | simp [World.cell?, k]
set_option maxRecDepth 100000 in
set_option maxHeartbeats 6400000 in
theorem gheard_any (p : Pm) (s : Rs) (st : s.Typed) (n : Int) (w : World) :
    Calls Tryz.prog 16 #[p.val, s.val, .int .i64 n] w fun e w' => e = .returned (heardS p s n).val ∧ Below w.heap.size w w' := by
  have hA : Below w.heap.size w (((w.alloc (.cells (pmC p) 24)).alloc (.cells (rsC s) 27)).alloc (.cells rsZ 27)) := ((((Below.refl _ _).alloc (Nat.le_refl _) _).alloc (by simp) _).alloc (by simp; omega) _)
  have zp : (((w.alloc (.cells (pmC p) 24)).alloc (.cells (rsC s) 27)).alloc (.cells rsZ 27)).heap[w.heap.size]? = some (.cells (pmC p) 24 (0, 0)) := (laid _ (laid _ (heap_alloc_new w _)))
  have zs : (((w.alloc (.cells (pmC p) 24)).alloc (.cells (rsC s) 27)).alloc (.cells rsZ 27)).heap[w.heap.size + 1]? = some (.cells (rsC s) 27 (0, 0)) := (laid _ (by have := heap_alloc_new (w.alloc (.cells (pmC p) 24)) (.cells (rsC s) 27); simpa [World.size_alloc] using this))
  have zr : (((w.alloc (.cells (pmC p) 24)).alloc (.cells (rsC s) 27)).alloc (.cells rsZ 27)).heap[w.heap.size + 1 + 1]? = some (.cells rsZ 27 (0, 0)) := (by have := heap_alloc_new ((w.alloc (.cells (pmC p) 24)).alloc (.cells (rsC s) 27)) (.cells rsZ 27); simpa [World.size_alloc] using this)
  have hz : heardS p s n = Rs.mk (if s.reg % 2 = 0 then s.reg + 1 else s.reg) s.host (heldI p n) s.burst s.next := rfl
  have m1 := fun w1 => makes_answering s st w1
  have m2 := fun bp bn w1 hp hn => makes_peering p (Rs.mk (if s.reg % 2 = 0 then s.reg + 1 else s.reg) s.host s.peer s.burst s.next) n bp bn w1 hp hn
  have c1 := gpeering p n
  dsimp only at m2
  rw [hz]
  generalize (if s.reg % 2 = 0 then s.reg + 1 else s.reg) = rg at *
  generalize heldI p n = hl at *
  have c2 := fun (b cap : Nat) (w1 : World) (x y : Nat) (hb : w1.heap[b]? = some (.cells #[.func (.func 32) #[] #[], .func (.func 70) #[] #[.pointer (some ⟨x, 0, none⟩), .pointer (some ⟨y, 0, none⟩)]] 41 (0, 0))) (hp : w1.heap[x]? = some (.cells (pmC p) 24 (0, 0))) (hn : w1.heap[y]? = some (.cells #[.int .i64 n] 3 (0, 0))) => gbehind2 s _ _ _ _ _ _ b cap w1 hb (m1 w1) (m2 x y w1 hp hn)
  clear m1 m2 hz
  unfold Pm.val Rs.val at *
  (try dsimp only at *)
  go_enter Tryz.func16, Tryz.ntmps16
  go_upto_region 1 with fail
  generalize (((w.alloc (.cells (pmC p) 24)).alloc (.cells (rsC s) 27)).alloc (.cells rsZ 27)) = w1 at *
  have zp' : w1.drew.heap[w.heap.size]? = some (.cells (pmC p) 24 (0, 0)) := zp
  have zs' : w1.drew.heap[w.heap.size + 1]? = some (.cells (rsC s) 27 (0, 0)) := zs
  have zr' : w1.drew.heap[w.heap.size + 1 + 1]? = some (.cells rsZ 27 (0, 0)) := zr
  have Bd : Below w.heap.size w w1.drew := hA.drew
  have K0 := seventeen zp' zs'
  go_region_held3 (fun w' => w'.cell? ⟨w.heap.size, 0, none⟩ = some (.int .i64 p.step) ∧ w'.cell? ⟨w.heap.size, 1, none⟩ = some (.int .i64 p.watch) ∧ w'.cell? ⟨w.heap.size, 2, none⟩ = some (.int .i64 p.panic) ∧ w'.cell? ⟨w.heap.size, 3, none⟩ = some (.int .i64 p.maxrate) ∧ w'.cell? ⟨w.heap.size, 4, none⟩ = some (.int .i64 p.phi) ∧ w'.cell? ⟨w.heap.size, 5, none⟩ = some (.int .i64 p.maxdist) ∧ w'.cell? ⟨w.heap.size, 6, none⟩ = some (.int .i64 p.gate) ∧ w'.cell? ⟨w.heap.size, 7, none⟩ = some (.int .i64 p.minpoll) ∧ w'.cell? ⟨w.heap.size, 8, none⟩ = some (.int .i64 p.maxpoll) ∧ w'.cell? ⟨w.heap.size, 9, none⟩ = some (.int .i64 p.burst) ∧ w'.cell? ⟨w.heap.size, 10, none⟩ = some (.int .i64 p.minsane) ∧ w'.cell? ⟨w.heap.size, 11, none⟩ = some (.int .i64 p.minleft) ∧ w'.cell? ⟨w.heap.size + 1, 0, none⟩ = some (.int .u8 s.reg) ∧ w'.cell? ⟨w.heap.size + 1, 1, none⟩ = some (.int .i64 s.host) ∧ w'.cell? ⟨w.heap.size + 1, 2, none⟩ = some (.int .i64 s.peer) ∧ w'.cell? ⟨w.heap.size + 1, 3, none⟩ = some (.int .i64 s.burst) ∧ w'.cell? ⟨w.heap.size + 1, 4, none⟩ = some (.int .i64 s.next))
    (with_reducible assumption)
    (first
      | (go_at_call 33; (with_reducible refine (c1 _).mono ?_); rintro e v1 ⟨rfl, x0, x1, g⟩; have y0 : v1.heap[w1.heap.size]? = some (.cells (pmC p) 24 (0, 0)) := x0; have y1 : v1.heap[w1.heap.size + 1]? = some (.cells #[.int .i64 n] 3 (0, 0)) := x1; clear x0 x1; have p1 := kept zp' g; have s1 := kept zs' g; have r1 := kept zr' g; have B1 := Bd.trans (g.mono Bd.size); clear g; have K1 := seventeen p1 s1; have K2 := seventeen (laid (.cells #[.func (.func 32) #[] #[], .func (.func 70) #[] #[.pointer (some ⟨w1.heap.size, 0, none⟩), .pointer (some ⟨w1.heap.size + 1, 0, none⟩)]] 41) p1) (laid (.cells #[.func (.func 32) #[] #[], .func (.func 70) #[] #[.pointer (some ⟨w1.heap.size, 0, none⟩), .pointer (some ⟨w1.heap.size + 1, 0, none⟩)]] 41) s1))
      | (go_at_call 10; refine (c2 _ _ _ _ _ (heap_alloc_new _ _) (laid _ y0) (laid _ y1)).mono ?_; rintro e vb ⟨rfl, gb⟩; have rb := kept (laid (.cells #[.func (.func 32) #[] #[], .func (.func 70) #[] #[.pointer (some ⟨w1.heap.size, 0, none⟩), .pointer (some ⟨w1.heap.size + 1, 0, none⟩)]] 41) r1) gb; have Bb := (B1.alloc B1.size (.cells #[.func (.func 32) #[] #[], .func (.func 70) #[] #[.pointer (some ⟨w1.heap.size, 0, none⟩), .pointer (some ⟨w1.heap.size + 1, 0, none⟩)]] 41)).trans (gb.mono (B1.alloc B1.size (.cells #[.func (.func 32) #[] #[], .func (.func 70) #[] #[.pointer (some ⟨w1.heap.size, 0, none⟩), .pointer (some ⟨w1.heap.size + 1, 0, none⟩)]] 41)).size); have ⟨q0, q1, q2, q3, q4⟩ := five_in rb; have fz := five_thaw rb; have n5 := new5 (.int .u8 rg) (.int .i64 s.host) (.int .i64 hl) (.int .i64 s.burst) (.int .i64 s.next) rb; have B5 := below5 (.int .u8 rg) (.int .i64 s.host) (.int .i64 hl) (.int .i64 s.burst) (.int .i64 s.next) Bb (show w.heap.size ≤ w.heap.size + 1 + 1 by omega); have KX := seventeen (far5 (.int .u8 rg) (.int .i64 s.host) (.int .i64 hl) (.int .i64 s.burst) (.int .i64 s.next) (show w.heap.size ≠ w.heap.size + 1 + 1 by omega) (kept (laid (.cells #[.func (.func 32) #[] #[], .func (.func 70) #[] #[.pointer (some ⟨w1.heap.size, 0, none⟩), .pointer (some ⟨w1.heap.size + 1, 0, none⟩)]] 41) p1) gb)) (far5 (.int .u8 rg) (.int .i64 s.host) (.int .i64 hl) (.int .i64 s.burst) (.int .i64 s.next) (show w.heap.size + 1 ≠ w.heap.size + 1 + 1 by omega) (kept (laid (.cells #[.func (.func 32) #[] #[], .func (.func 70) #[] #[.pointer (some ⟨w1.heap.size, 0, none⟩), .pointer (some ⟨w1.heap.size + 1, 0, none⟩)]] 41) s1) gb)); have KY := seventeen (kept (laid (.cells #[.func (.func 32) #[] #[], .func (.func 70) #[] #[.pointer (some ⟨w1.heap.size, 0, none⟩), .pointer (some ⟨w1.heap.size + 1, 0, none⟩)]] 41) p1) gb) (kept (laid (.cells #[.func (.func 32) #[] #[], .func (.func 70) #[] #[.pointer (some ⟨w1.heap.size, 0, none⟩), .pointer (some ⟨w1.heap.size + 1, 0, none⟩)]] 41) s1) gb)))
  go_wp2_with fail
  obtain ⟨f0, f1, f2, f3, f4⟩ := five_in n5
  refine bodyPost_ret (v := .agg #[.int .u8 rg, .int .i64 s.host, .int .i64 hl, .int .i64 s.burst, .int .i64 s.next]) ?_ rfl ?_
  · simp [results, Tryz.results16, go_sem, f0, f1, f2, f3, f4]
  · exact ⟨rfl, B5⟩
set_option maxRecDepth 100000 in
set_option maxHeartbeats 6400000 in
theorem gdoubt1 (p : Pm) (s : Rs) (st : s.Typed) (bp : Nat) (w : World) (hp : w.heap[bp]? = some (.cells (pmC p) 24 (0, 0))) :
    Calls Tryz.prog 26 #[s.val, .pointer (some ⟨bp, 0, none⟩)] w fun e w' => e = .returned (Rs.mk s.reg (if s.reg % 8 = 0 then heldI p (moreI s.host) else s.host) s.peer s.burst s.next).val ∧ Below w.heap.size w w' := by
  have hA : Below w.heap.size w ((w.alloc (.cells (rsC s) 27)).alloc (.cells rsZ 27)) := (((Below.refl _ _).alloc (Nat.le_refl _) _).alloc (by simp) _)
  have zs : ((w.alloc (.cells (rsC s) 27)).alloc (.cells rsZ 27)).heap[w.heap.size]? = some (.cells (rsC s) 27 (0, 0)) := (laid _ (heap_alloc_new w _))
  have zr : ((w.alloc (.cells (rsC s) 27)).alloc (.cells rsZ 27)).heap[w.heap.size + 1]? = some (.cells rsZ 27 (0, 0)) := (by have := heap_alloc_new (w.alloc (.cells (rsC s) 27)) (.cells rsZ 27); simpa [World.size_alloc] using this)
  have zp : ((w.alloc (.cells (rsC s) 27)).alloc (.cells rsZ 27)).heap[bp]? = some (.cells (pmC p) 24 (0, 0)) := laid _ (laid _ hp)
  have lbp := (Array.getElem?_eq_some_iff.1 hp).1
  have h8 := and_sevenI st.reg.1 st.reg.2
  have cm := gmore_any s.host st.host.1 st.host.2
  clear hp st
  by_cases hq : s.reg % 8 = 0
  · rw [if_pos hq]
    generalize moreI s.host = m at *
    have ch := ghosting p m
    have m1 := makes_hosting p s m
    (try dsimp only at m1)
    generalize heldI p m = hl at *
    have c2 := fun (b cap : Nat) (w1 : World) (x y : Nat) (hb : w1.heap[b]? = some (.cells #[.func (.func 68) #[] #[.pointer (some ⟨x, 0, none⟩), .pointer (some ⟨y, 0, none⟩)]] 41 (0, 0))) (hp : w1.heap[x]? = some (.cells (pmC p) 24 (0, 0))) (hn : w1.heap[y]? = some (.cells #[.int .i64 m] 3 (0, 0))) => gbehind1 s _ _ _ b cap w1 hb (m1 x y w1 hp hn)
    clear m1
    rw [hq] at h8
    have k8 : ((bits .and .u8 s.reg 7) == 0) = true := by rw [h8]; rfl
    have K8 := Lib.hid hq
    clear hq
    unfold Pm.val Rs.val at *
    (try dsimp only at *)
    go_enter Tryz.func26, Tryz.ntmps26
    go_upto_region 1 with fail
    generalize ((w.alloc (.cells (rsC s) 27)).alloc (.cells rsZ 27)) = w1 at *
    obtain ⟨a0, a1, a2, a3, a4⟩ := five_in zs
    go_upto_region 3 with fail
    clear a0 a1 a2 a3 a4
    have zp' : w1.drew.heap[bp]? = some (.cells (pmC p) 24 (0, 0)) := zp
    have zs' : w1.drew.heap[w.heap.size]? = some (.cells (rsC s) 27 (0, 0)) := zs
    have zr' : w1.drew.heap[w.heap.size + 1]? = some (.cells rsZ 27 (0, 0)) := zr
    have Bd : Below w.heap.size w w1.drew := hA.drew
    have K0 := seventeen zp' zs'
    go_region_held3 (fun w' => w'.cell? ⟨bp, 0, none⟩ = some (.int .i64 p.step) ∧ w'.cell? ⟨bp, 1, none⟩ = some (.int .i64 p.watch) ∧ w'.cell? ⟨bp, 2, none⟩ = some (.int .i64 p.panic) ∧ w'.cell? ⟨bp, 3, none⟩ = some (.int .i64 p.maxrate) ∧ w'.cell? ⟨bp, 4, none⟩ = some (.int .i64 p.phi) ∧ w'.cell? ⟨bp, 5, none⟩ = some (.int .i64 p.maxdist) ∧ w'.cell? ⟨bp, 6, none⟩ = some (.int .i64 p.gate) ∧ w'.cell? ⟨bp, 7, none⟩ = some (.int .i64 p.minpoll) ∧ w'.cell? ⟨bp, 8, none⟩ = some (.int .i64 p.maxpoll) ∧ w'.cell? ⟨bp, 9, none⟩ = some (.int .i64 p.burst) ∧ w'.cell? ⟨bp, 10, none⟩ = some (.int .i64 p.minsane) ∧ w'.cell? ⟨bp, 11, none⟩ = some (.int .i64 p.minleft) ∧ w'.cell? ⟨w.heap.size, 0, none⟩ = some (.int .u8 s.reg) ∧ w'.cell? ⟨w.heap.size, 1, none⟩ = some (.int .i64 s.host) ∧ w'.cell? ⟨w.heap.size, 2, none⟩ = some (.int .i64 s.peer) ∧ w'.cell? ⟨w.heap.size, 3, none⟩ = some (.int .i64 s.burst) ∧ w'.cell? ⟨w.heap.size, 4, none⟩ = some (.int .i64 s.next))
      (with_reducible assumption)
      (first
        | (go_at_call 28; (with_reducible refine (cm _).mono ?_); rintro e v0 ⟨rfl, rfl⟩)
        | (go_at_call 27; (with_reducible refine (ch _).mono ?_); rintro e v1 ⟨rfl, x0, x1, g⟩; have y0 : v1.heap[w1.heap.size]? = some (.cells (pmC p) 24 (0, 0)) := x0; have y1 : v1.heap[w1.heap.size + 1]? = some (.cells #[.int .i64 m] 3 (0, 0)) := x1; clear x0 x1; have p1 := kept zp' g; have s1 := kept zs' g; have r1 := kept zr' g; have B1 := Bd.trans (g.mono Bd.size); clear g; have K1 := seventeen p1 s1; have K2 := seventeen (laid (.cells #[.func (.func 68) #[] #[.pointer (some ⟨w1.heap.size, 0, none⟩), .pointer (some ⟨w1.heap.size + 1, 0, none⟩)]] 41) p1) (laid (.cells #[.func (.func 68) #[] #[.pointer (some ⟨w1.heap.size, 0, none⟩), .pointer (some ⟨w1.heap.size + 1, 0, none⟩)]] 41) s1))
        | (go_at_call 10; refine (c2 _ _ _ _ _ (heap_alloc_new _ _) (laid _ y0) (laid _ y1)).mono ?_; rintro e vb ⟨rfl, gb⟩; have rb := kept (laid (.cells #[.func (.func 68) #[] #[.pointer (some ⟨w1.heap.size, 0, none⟩), .pointer (some ⟨w1.heap.size + 1, 0, none⟩)]] 41) r1) gb; have Bb := (B1.alloc B1.size (.cells #[.func (.func 68) #[] #[.pointer (some ⟨w1.heap.size, 0, none⟩), .pointer (some ⟨w1.heap.size + 1, 0, none⟩)]] 41)).trans (gb.mono (B1.alloc B1.size (.cells #[.func (.func 68) #[] #[.pointer (some ⟨w1.heap.size, 0, none⟩), .pointer (some ⟨w1.heap.size + 1, 0, none⟩)]] 41)).size); have ⟨q0, q1, q2, q3, q4⟩ := five_in rb; have fz := five_thaw rb; have n5 := new5 (.int .u8 s.reg) (.int .i64 hl) (.int .i64 s.peer) (.int .i64 s.burst) (.int .i64 s.next) rb; have B5 := below5 (.int .u8 s.reg) (.int .i64 hl) (.int .i64 s.peer) (.int .i64 s.burst) (.int .i64 s.next) Bb (show w.heap.size ≤ w.heap.size + 1 by omega); have KX := seventeen (far5 (.int .u8 s.reg) (.int .i64 hl) (.int .i64 s.peer) (.int .i64 s.burst) (.int .i64 s.next) (show bp ≠ w.heap.size + 1 by omega) (kept (laid (.cells #[.func (.func 68) #[] #[.pointer (some ⟨w1.heap.size, 0, none⟩), .pointer (some ⟨w1.heap.size + 1, 0, none⟩)]] 41) p1) gb)) (far5 (.int .u8 s.reg) (.int .i64 hl) (.int .i64 s.peer) (.int .i64 s.burst) (.int .i64 s.next) (show w.heap.size ≠ w.heap.size + 1 by omega) (kept (laid (.cells #[.func (.func 68) #[] #[.pointer (some ⟨w1.heap.size, 0, none⟩), .pointer (some ⟨w1.heap.size + 1, 0, none⟩)]] 41) s1) gb)); have KY := seventeen (kept (laid (.cells #[.func (.func 68) #[] #[.pointer (some ⟨w1.heap.size, 0, none⟩), .pointer (some ⟨w1.heap.size + 1, 0, none⟩)]] 41) p1) gb) (kept (laid (.cells #[.func (.func 68) #[] #[.pointer (some ⟨w1.heap.size, 0, none⟩), .pointer (some ⟨w1.heap.size + 1, 0, none⟩)]] 41) s1) gb)))
    go_wp2_with fail
    obtain ⟨f0, f1, f2, f3, f4⟩ := five_in n5
    refine bodyPost_ret (v := .agg #[.int .u8 s.reg, .int .i64 hl, .int .i64 s.peer, .int .i64 s.burst, .int .i64 s.next]) ?_ rfl ?_
    · simp [results, Tryz.results26, go_sem, f0, f1, f2, f3, f4]
    · exact ⟨rfl, B5⟩
  · rw [if_neg hq]
    have k8 : ((bits .and .u8 s.reg 7) == 0) = false := by rw [h8, beq_eq_false_iff_ne]; exact hq
    have E1 := fin5 s zr hA (show w.heap.size ≤ w.heap.size + 1 by omega)
    have EE := Lib.hid E1
    have o1 := rs_one s
    clear hq h8 cm E1 hA zp
    unfold Rs.val rsC at *
    (try dsimp only at *)
    go_enter Tryz.func26, Tryz.ntmps26
    go_upto_region 1 with fail
    generalize ((w.alloc (.cells (rsC s) 27)).alloc (.cells rsZ 27)) = w1 at *
    obtain ⟨a0, a1, a2, a3, a4⟩ := five_in zs
    go_wp2_with (first | (refine at_load_rs11 rfl _ rfl _ rfl zs rfl ?_) | (refine at_store_rs11 rfl _ _ rfl _ rfl rfl zr rfl rfl o1 ?_))
    obtain ⟨q0, q1, q2, q3, q4⟩ := five_in EE.out.1
    refine bodyPost_ret (v := .agg #[.int .u8 s.reg, .int .i64 s.host, .int .i64 s.peer, .int .i64 s.burst, .int .i64 s.next]) ?_ rfl ?_
    · simp [results, Tryz.results26, go_sem, q0, q1, q2, q3, q4]
    · exact ⟨rfl, EE.out.2⟩
end Go.Proofs.YtfangllkfcmefaaGreat.W
