/- Layer 17's own code, walked: the one that is furthest from the others. -/
import Derived.Test.YtefjdmbioclddaaCnE
import Derived.Test.YtefjdmbioclddaaCnF
import Derived.Test.YtefjdmbioclddaaQtB
import Derived.Laws.MakeOwn
namespace Go.Proofs.Ytefjdmbioclddaa.W
open Go.RowKit Go.Sort
set_option linter.unusedVariables false
set_option linter.unusedSimpArgs false
theorem cmpC_pos (a b : Int) : 0 < cmpC a b ↔ b < a := by
  unfold cmpC
  split
  · omega
  · split <;> omega
theorem cmpC_zero (a b : Int) : cmpC a b = 0 ↔ a = b := by
  unfold cmpC
  split
  · omega
  · split <;> omega
theorem cmpC_neg (a b : Int) : cmpC a b < 0 ↔ a < b := by
  unfold cmpC
  split
  · omega
  · split <;> omega
theorem orC_pos (a b : Int) : 0 < orC a b ↔ 0 < a ∨ a = 0 ∧ 0 < b := by
  unfold orC
  split <;> omega
theorem wrs_pos (x y : Nd) : 0 < wrsC x y ↔ y.jit < x.jit ∨ x.jit = y.jit ∧ (y.met < x.met ∨ x.met = y.met ∧ y.off < x.off) := by
  unfold wrsC
  rw [orC_pos, orC_pos, cmpC_pos, cmpC_pos, cmpC_pos, cmpC_zero, cmpC_zero]
/-- Where a node is, how far apart it is, its metric. -/
def plcN (l : List Nd) (k : Nat) : Nd := ⟨(k : Int), aptN l k, metNd l k⟩
def plcs (l : List Nd) : List Nd := (List.range l.length).map (plcN l)
theorem plcs_length (l : List Nd) : (plcs l).length = l.length := by simp [plcs]
theorem plcs_at {l : List Nd} {k : Nat} (h : k < l.length) : (plcs l)[k]? = some (plcN l k) := by simp [plcs, h]
theorem pk_worst (l : List Nd) : ∀ k, k < l.length → pkN moreT wrsC (plcs l) k = plcN l (wstP l (k + 1)).1
  | 0, h => by
    have e : wstP l (0 + 1) = (0, aptN l 0) := by rw [wstP, if_pos (.inl rfl)]
    rw [e]
    show (plcs l).getD 0 Nd.zero = plcN l 0
    simp [List.getD, plcs_at h]
  | k + 1, h => by
    have ih := pk_worst l k (by omega)
    rw [pk_next moreT wrsC (plcs l) (Nat.le_add_left 1 k) (plcs_at h), Nat.add_sub_cancel, ih]
    have hw := wst_lt l (k + 1) (Nat.succ_pos k)
    have hn : wstP l (k + 1 + 1) = if k + 1 = 0 ∨ (wstP l (k + 1)).2 < aptN l (k + 1) ∨ aptN l (k + 1) = (wstP l (k + 1)).2 ∧ metNd l (wstP l (k + 1)).1 ≤ metNd l (k + 1) then (k + 1, aptN l (k + 1)) else wstP l (k + 1) := by rw [wstP]
    rw [hn]
    have hp := wrs_pos (plcN l (k + 1)) (plcN l (wstP l (k + 1)).1)
    have hm : moreT (wrsC (plcN l (k + 1)) (plcN l (wstP l (k + 1)).1)) = true ↔ 0 < wrsC (plcN l (k + 1)) (plcN l (wstP l (k + 1)).1) := by unfold moreT; exact decide_eq_true_iff
    generalize wrsC (plcN l (k + 1)) (plcN l (wstP l (k + 1)).1) = z at *
    generalize wstP l (k + 1) = W at *
    unfold plcN at hp
    dsimp only at hp
    rw [← hw.2] at hp
    have hlt := hw.1
    by_cases g : W.2 < aptN l (k + 1) ∨ aptN l (k + 1) = W.2 ∧ metNd l W.1 ≤ metNd l (k + 1)
    · rw [if_pos (hm.2 (hp.2 (by omega))), if_pos (.inr g)]
    · rw [if_neg (fun e => g (by have := hp.1 (hm.1 e); omega)), if_neg (by omega)]
theorem most_worst (l : List Nd) : (mostN wrsC (plcs l)).off = ((worstP l).1 : Int) ∧ (mostN wrsC (plcs l)).jit = (worstP l).2 := by
  unfold mostN worstP
  rw [plcs_length]
  rcases Nat.eq_zero_or_pos l.length with h | h
  · obtain rfl := List.eq_nil_of_length_eq_zero h
    exact ⟨rfl, rfl⟩
  · have hw := wst_lt l l.length h
    have := pk_worst l (l.length - 1) (by omega)
    rw [Nat.sub_add_cancel h] at this
    rw [this]
    exact ⟨rfl, hw.2.symm⟩
theorem info_plc : (Try.prog.info? 53).map (fun i => (i.zero, i.size, i.bytes)) = some (some (.agg #[.int .i64 0, .int .i64 0, .int .i64 0]), 3, 24) := by kernel_rfl
/-- A row of n places of which the first k have come. -/
def PlcRow (l : List Nd) (n k : Nat) (C : Array Value) : Prop := C.size = n * 3 ∧ ∀ j, j < k → ∀ m u, (ndC (plcN l j))[m]? = some u → C[j * 3 + m]? = some u
theorem plc_set {l : List Nd} {n k : Nat} {C : Array Value} (h : PlcRow l n k C) (hk : k < n) {x y z : Value} (hx : ndC (plcN l k) = [x, y, z]) : PlcRow l n (k + 1) (((C.setIfInBounds (k * 3) x).setIfInBounds (k * 3 + 1) y).setIfInBounds (k * 3 + 2) z) := by
  have hs : C.size = n * 3 := h.1
  refine ⟨by simp only [Array.size_setIfInBounds]; exact hs, fun j hj m u hu => ?_⟩
  have hm : m < 3 := by
    have := (List.getElem?_eq_some_iff.1 hu).1
    simpa [ndC] using this
  rw [Array.getElem?_setIfInBounds, Array.getElem?_setIfInBounds, Array.getElem?_setIfInBounds]
  simp only [Array.size_setIfInBounds, hs]
  by_cases e : j = k
  · subst e
    rw [hx] at hu
    have : m = 0 ∨ m = 1 ∨ m = 2 := by omega
    rcases this with rfl | rfl | rfl
    · rw [if_neg (by omega), if_neg (by omega), if_pos (by omega), if_pos (by omega)]
      exact hu
    · rw [if_neg (by omega), if_pos (by omega), if_pos (by omega)]
      exact hu
    · rw [if_pos (by omega), if_pos (by omega)]
      exact hu
  · rw [if_neg (by omega), if_neg (by omega), if_neg (by omega)]
    exact h.2 j (by omega) m u hu
theorem plc_cells {w : World} {b : Nat} {C : Array Value} {t : TypeId} {l : List Nd} {n k : Nat} (hb : w.heap[b]? = some (.cells C t (0, 0))) (h : PlcRow l n k C) {i : Nat} (hi : i < n) : ∃ u0 u1 u2, w.cell? ⟨b, i * 3, none⟩ = some u0 ∧ w.cell? ⟨b, i * 3 + 1, none⟩ = some u1 ∧ w.cell? ⟨b, i * 3 + 2, none⟩ = some u2 ∧ ∀ j, w.frozen? ⟨b, j, none⟩ = false := by
  have hs := h.1
  have e : ∀ j, j < n * 3 → ∃ u, w.cell? ⟨b, j, none⟩ = some u := fun j hj => ⟨C[j]'(by omega), by simp [World.cell?, hb, hs, hj]⟩
  obtain ⟨u0, h0⟩ := e (i * 3) (by omega)
  obtain ⟨u1, h1⟩ := e (i * 3 + 1) (by omega)
  obtain ⟨u2, h2⟩ := e (i * 3 + 2) (by omega)
  exact ⟨u0, u1, u2, h0, h1, h2, fun j => by simp [World.frozen?, hb]⟩
theorem plc_sl {w : World} {b : Nat} {C : Array Value} {t : TypeId} {l : List Nd} (hb : w.heap[b]? = some (.cells C t (0, 0))) (h : PlcRow l l.length l.length C) (cap : Nat) : SlAt (fun k => k = b) 3 ndC w (.slice (some ⟨b, 0, none⟩) l.length cap) (plcs l) := by
  refine .inr ⟨b, 0, cap, by rw [plcs_length], rfl, fun i x hx j u hu => ?_⟩
  have hi : i < l.length := by
    have := (List.getElem?_eq_some_iff.1 hx).1
    rwa [plcs_length] at this
  rw [plcs_at hi] at hx
  obtain rfl := Option.some.inj hx
  have := h.2 i hi j u hu
  rw [Nat.zero_add]
  simp [World.cell?, hb, this]
set_option maxRecDepth 100000 in
set_option maxHeartbeats 12800000 in
theorem cwst_any (l : List Nd) (tl : ∀ c ∈ l, c.Typed) (hl : l.length ≤ 100) {F : Nat → Prop} {v : Value} (w : World) (hs : SlAt F 3 ndC w v l) (hF : ∀ b, F b → b < w.heap.size) :
    Calls Try.prog 10 #[v] w fun e w' => e = .returned (.tuple #[.int .i64 ((worstP l).1 : Int), .int .i64 (worstP l).2]) ∧ Below w.heap.size w w' := by
  have HS := Lib.hid hs
  have HF := Lib.hid hF
  obtain ⟨vx, vc, rfl⟩ := hs.slice
  obtain ⟨i0, hi, hz0, hz1, hz2⟩ := info_parts info_plc
  have KA := Lib.hid (fun (n : Nat) (hn : n < l.length) W (hB : Below w.heap.size w W) => capt_any l tl hl (n : Int) (by omega) W (hs.kept (fun b hb => hB.block b (hF b hb))) (fun b hb => Nat.lt_of_lt_of_le (hF b hb) hB.size))
  have hm1 : ∀ W, (Instr.makeSlice 51 (.int .i64 (l.length : Int)) (.int .i64 (l.length : Int))).run Try.prog W = .ok (.slice (some ⟨W.heap.size, 0, none⟩) l.length l.length) (W.alloc (.cells (madeCells #[.int .i64 0, .int .i64 0, .int .i64 0] (l.length * 3)) 53)) := fun W => by
    have := run_make (P := Try.prog) W 51 53 i0 (.agg #[.int .i64 0, .int .i64 0, .int .i64 0]) Try.underlying51 hi hz0 .i64 .i64 l.length l.length (by omega) (by omega) (by rw [hz2]; omega) (by omega)
    rw [hz1, show ((l.length : Int)).toNat = l.length by omega] at this
    exact this
  generalize hRR : madeCells #[.int .i64 0, .int .i64 0, .int .i64 0] (l.length * 3) = RR at hm1
  have hP : PlcRow l l.length 0 RR := ⟨by rw [← hRR, size_madeCells], fun j hj => absurd hj (Nat.not_lt_zero _)⟩
  have H0 := Lib.hid (And.intro (heap_alloc_new w (.cells RR 53)) (And.intro hP ((Below.refl w.heap.size w).alloc (Nat.le_refl _) (.cells RR 53))))
  clear hs hF hRR hP tl hi hz0 hz1 hz2
  go_enter Try.func10, Try.ntmps10
  go_upto_region 2 with fail
  generalize w.alloc (.cells RR 53) = w1 at *
  clear hm1
  go_wp2_with fail
  go_loopw [14] (fun i wr => ∃ (n : Nat) (C : Array Value), n ≤ l.length ∧ i = .int .i64 (n : Int) ∧ Hid (wr.heap[w.heap.size]? = some (.cells C 53 (0, 0)) ∧ PlcRow l l.length n C ∧ Below w.heap.size w wr)) (fun i _ => l.length - (intOf i).toNat)
  case atStart => exact ⟨0, RR, Nat.zero_le _, rfl, H0⟩
  case round =>
    obtain ⟨n, C, hn, rfl, HC⟩ := hrel
    clear H0
    by_cases hlt : n < l.length
    · obtain ⟨c, hc⟩ : ∃ c, l[n]? = some c := ⟨_, List.getElem?_eq_getElem hlt⟩
      have i1 : (n : Int) < l.length := by omega
      have i0' : (0 : Int) ≤ (n : Int) := by omega
      obtain ⟨b, off, rfl⟩ := nd_some17 HS.out hc
      obtain ⟨y0, y1, y2, fb⟩ := nd_at17 HS.out hc
      have lb := HF.out b fb
      have hB := HC.out.2.2
      have e0 : wr.cell? ⟨b, off + n * 3, none⟩ = some (.int .i64 c.off) := by rw [hB.cell lb]; exact y0
      have e1 : wr.cell? ⟨b, off + n * 3 + 1, none⟩ = some (.int .i64 c.jit) := by rw [hB.cell lb]; exact y1
      have e2 : wr.cell? ⟨b, off + n * 3 + 2, none⟩ = some (.int .i64 c.met) := by rw [hB.cell lb]; exact y2
      have hmn : metNd l n = c.met := by unfold metNd; simp [List.getD, hc]
      have hH := Lib.hid (heap_alloc_new wr (.cells #[.int .i64 c.off, .int .i64 c.jit, .int .i64 c.met] 40))
      have hap : apartI l (n : Int) = aptN l n := by unfold apartI; rw [if_neg (by omega)]; rfl
      have HB2 := Lib.hid (And.intro (laid (.cells #[.int .i64 c.off, .int .i64 c.jit, .int .i64 c.met] 40) HC.out.1) (And.intro HC.out.2.1 (hB.alloc hB.size (.cells #[.int .i64 c.off, .int .i64 c.jit, .int .i64 c.met] 40))))
      clear hB y0 y1 y2 HC hc fb
      go_upto_region 5 with fail
      clear e0 e1 e2
      generalize wr.alloc (.cells #[.int .i64 c.off, .int .i64 c.jit, .int .i64 c.met] 40) = w2 at *
      generalize wr.heap.size = hh at *
      have d1 := fun d os => Calls.regrown_of (KA.out n hlt (grow (redrawn w2 d) os) (HB2.out.2.2.trans ((below_regrown w2 d os).mono HB2.out.2.2.size)))
      rw [hap] at d1
      obtain ⟨_, _, u2, _⟩ := three_at17 hH.out
      have k2 := cell_regrown u2
      obtain ⟨a, ha⟩ : ∃ a, aptN l n = a := ⟨_, rfl⟩
      rw [ha] at d1
      have HA := Lib.hid (And.intro ha hmn)
      clear hap ha hmn u2
      refine wp_region_below_tail 10 (by kernel_rfl) (by kernel_rfl) ?_
      simp only [List.take_succ_cons, List.take_zero, List.drop_succ_cons, List.drop_zero]
      repeat (quiet_step (first | (with_reducible exact d1 _ _)))
      refine wpQuiet_nil ?_
      intro w3 hw
      replace hw := again17 hw
      obtain ⟨hC2, hP2, hB2⟩ := HB2.out
      have hC3 := kept hC2 hw
      obtain ⟨v0, v1, v2, q0, q1, q2, qf⟩ := plc_cells hC3 hP2 hlt
      have hx : ndC (plcN l n) = [.int .i64 (n : Int), .int .i64 a, .int .i64 c.met] := by
        show [Value.int .i64 (n : Int), .int .i64 (aptN l n), .int .i64 (metNd l n)] = _
        rw [HA.out.1, HA.out.2]
      have hP3 := plc_set hP2 hlt hx
      have hC4 := block_set (n * 3 + 2) (.int .i64 c.met) (block_set (n * 3 + 1) (.int .i64 a) (block_set (n * 3) (.int .i64 (n : Int)) hC3))
      have hB3 := hB2.trans (hw.mono hB2.size)
      have hB4 := ((hB3.setCell (p := ⟨w.heap.size, n * 3, none⟩) (Nat.le_refl _) (.int .i64 (n : Int))).setCell (p := ⟨w.heap.size, n * 3 + 1, none⟩) (Nat.le_refl _) (.int .i64 a)).setCell (p := ⟨w.heap.size, n * 3 + 2, none⟩) (Nat.le_refl _) (.int .i64 c.met)
      have HN := Lib.hid (And.intro hC4 (And.intro hP3 hB4))
      clear hC2 hP2 hB2 hC3 hx hP3 hC4 hB3 hB4 d1 k2 hw HB2 hH HA
      go_wp2_with fail
      go_roundw
      case rel => exact ⟨n + 1, _, by omega, by go_num, HN⟩
      case measure => simp [intOf]; omega
    · have enl : n = l.length := by omega
      subst enl
      generalize wr = wo at *
      obtain ⟨hC, hP, hB⟩ := HC.out
      have hsl := plc_sl hC hP l.length
      have hbl := (Array.getElem?_eq_some_iff.1 hC).1
      have ce := kendsp_any wrsC 20 (fun args w => by kernel_rfl) kwrs_any (plcs l) (by rw [plcs_length]; omega) wo hsl (fun k hk => by subst hk; exact hbl)
      have hmw := most_worst l
      obtain ⟨p, hp⟩ : ∃ p, leastN wrsC (plcs l) = p := ⟨_, rfl⟩
      obtain ⟨q, hq⟩ : ∃ q, mostN wrsC (plcs l) = q := ⟨_, rfl⟩
      rw [hp, hq] at ce
      rw [hq] at hmw
      have HMW := Lib.hid hmw
      unfold Nd.val at ce
      have BB := Lib.hid hB
      clear hC hP hB hsl hbl hmw hp hq HC
      go_wp2_with fail
      (with_reducible refine ce.mono ?_)
      rintro e w5 ⟨rfl, hb⟩
      have B5 := Lib.hid (BB.out.trans (hb.mono BB.out.size))
      clear hb ce BB
      go_upto_region 8 with fail
      obtain ⟨g0, g1, gB⟩ := two_nd17 w5 #[.int .i64 p.off, .int .i64 p.jit, .int .i64 p.met] #[.int .i64 q.off, .int .i64 q.jit, .int .i64 q.met] 53
      have B6 := Lib.hid (B5.out.trans (gB.mono B5.out.size))
      generalize (w5.alloc (.cells #[.int .i64 p.off, .int .i64 p.jit, .int .i64 p.met] 53)).alloc (.cells #[.int .i64 q.off, .int .i64 q.jit, .int .i64 q.met] 53) = w6 at *
      obtain ⟨x0, x1, _, _⟩ := three_at17 g1
      clear g0 g1 gB B5
      go_quiet (fail)
      have hbn := Lib.hid (below_drewN B6.out nq)
      go_wp2_with fail
      go_ret2
      refine ⟨?_, hbn.out⟩
      rw [← HMW.out.1, ← HMW.out.2]
      rfl
end Go.Proofs.Ytefjdmbioclddaa.W
