/- Layer 17's own code, walked: the least jitter, how far they spread, all places. -/
import Derived.Test.YtefjdmbioclddaaCnG
import Derived.Test.YtefjdmbioclddaaPlA
import Derived.Laws.Append
import Derived.Laws.AppendOwnNone
namespace Go.Proofs.Ytefjdmbioclddaa.W
open Go.RowKit Go.Sort
set_option linter.unusedVariables false
set_option linter.unusedSimpArgs false
theorem take_snoc17 {l : List Nd} {k : Nat} (h : k < l.length) (f : Nd → Int) : (l.take (k + 1)).map f = (l.take k).map f ++ [f (l.getD k Nd.zero)] := by
  have e : l.getD k Nd.zero = l[k] := by simp [List.getD, h]
  rw [List.take_succ_eq_append_getElem h, List.map_append, e]
  rfl
theorem pk_least (f : Nd → Int) (cf : Nd → Nd → Int) (hcf : ∀ x y, cf x y < 0 ↔ f x < f y) (l : List Nd) : ∀ k, k < l.length → f (pkN lessT cf l k) = ((l.take (k + 1)).map f).foldl min (f (l.getD 0 Nd.zero))
  | 0, h => by
    rw [take_snoc17 h]
    show f (l.getD 0 Nd.zero) = min (f (l.getD 0 Nd.zero)) (f (l.getD 0 Nd.zero))
    omega
  | k + 1, h => by
    have ih := pk_least f cf hcf l k (by omega)
    rw [take_snoc17 h, List.foldl_append]
    rw [← ih]
    show f (if lessT (cf (l.getD (k + 1) Nd.zero) (pkN lessT cf l k)) = true then l.getD (k + 1) Nd.zero else pkN lessT cf l k) = min (f (pkN lessT cf l k)) (f (l.getD (k + 1) Nd.zero))
    have hx := hcf (l.getD (k + 1) Nd.zero) (pkN lessT cf l k)
    generalize l.getD (k + 1) Nd.zero = c at *
    generalize pkN lessT cf l k = m at *
    by_cases g : cf c m < 0
    · rw [if_pos (by unfold lessT; exact decide_eq_true g)]
      have := hx.1 g
      omega
    · rw [if_neg (by unfold lessT; rw [decide_eq_false g]; decide)]
      have : ¬ f c < f m := fun e => g (hx.2 e)
      omega
theorem pk_most (f : Nd → Int) (cf : Nd → Nd → Int) (hcf : ∀ x y, 0 < cf x y ↔ f y < f x) (l : List Nd) : ∀ k, k < l.length → f (pkN moreT cf l k) = ((l.take (k + 1)).map f).foldl max (f (l.getD 0 Nd.zero))
  | 0, h => by
    rw [take_snoc17 h]
    show f (l.getD 0 Nd.zero) = max (f (l.getD 0 Nd.zero)) (f (l.getD 0 Nd.zero))
    omega
  | k + 1, h => by
    have ih := pk_most f cf hcf l k (by omega)
    rw [take_snoc17 h, List.foldl_append]
    rw [← ih]
    show f (if moreT (cf (l.getD (k + 1) Nd.zero) (pkN moreT cf l k)) = true then l.getD (k + 1) Nd.zero else pkN moreT cf l k) = max (f (pkN moreT cf l k)) (f (l.getD (k + 1) Nd.zero))
    have hx := hcf (l.getD (k + 1) Nd.zero) (pkN moreT cf l k)
    generalize l.getD (k + 1) Nd.zero = c at *
    generalize pkN moreT cf l k = m at *
    by_cases g : 0 < cf c m
    · rw [if_pos (by unfold moreT; exact decide_eq_true g)]
      have := hx.1 g
      omega
    · rw [if_neg (by unfold moreT; rw [decide_eq_false g]; decide)]
      have : ¬ f m < f c := fun e => g (hx.2 e)
      omega
theorem least_isN (f : Nd → Int) (cf : Nd → Nd → Int) (hcf : ∀ x y, cf x y < 0 ↔ f x < f y) (l : List Nd) : f (leastN cf l) = (l.map f).foldl min (f (l.getD 0 Nd.zero)) := by
  unfold leastN
  rcases Nat.eq_zero_or_pos l.length with h | h
  · obtain rfl := List.eq_nil_of_length_eq_zero h
    rfl
  · have := pk_least f cf hcf l (l.length - 1) (by omega)
    rw [Nat.sub_add_cancel h, List.take_length] at this
    exact this
theorem most_isN (f : Nd → Int) (cf : Nd → Nd → Int) (hcf : ∀ x y, 0 < cf x y ↔ f y < f x) (l : List Nd) : f (mostN cf l) = (l.map f).foldl max (f (l.getD 0 Nd.zero)) := by
  unfold mostN
  rcases Nat.eq_zero_or_pos l.length with h | h
  · obtain rfl := List.eq_nil_of_length_eq_zero h
    rfl
  · have := pk_most f cf hcf l (l.length - 1) (by omega)
    rw [Nat.sub_add_cancel h, List.take_length] at this
    exact this
theorem pk_typed (t : Int → Bool) (cf : Nd → Nd → Int) {l : List Nd} (tl : ∀ c ∈ l, c.Typed) : ∀ k, (pkN t cf l k).Typed := by
  have tz : Nd.zero.Typed := ⟨by decide, by decide, by decide⟩
  have td : ∀ k, (l.getD k Nd.zero).Typed := fun k => by
    by_cases h : k < l.length
    · have e : l.getD k Nd.zero = l[k] := by simp [List.getD, h]
      rw [e]
      exact tl _ (List.getElem_mem h)
    · have e : l.getD k Nd.zero = Nd.zero := by simp [List.getD, h]
      rw [e]
      exact tz
  intro k
  induction k with
  | zero => exact td 0
  | succ k ih =>
    unfold pkN
    split
    · exact td _
    · exact ih
theorem calm_is (l : List Nd) : (leastN jitC17 l).jit = quietI l := least_isN Nd.jit jitC17 (fun x y => cmpC_neg x.jit y.jit) l
theorem low_is (l : List Nd) : (leastN offC17 l).off = lowN l := least_isN Nd.off offC17 (fun x y => cmpC_neg x.off y.off) l
theorem high_is (l : List Nd) : (mostN offC17 l).off = highN l := most_isN Nd.off offC17 (fun x y => cmpC_pos x.off y.off) l
theorem spread_is (l : List Nd) : spreadI l = subI (highN l) (lowN l) := by
  unfold spreadI
  by_cases h : l = []
  · subst h
    rfl
  · rw [if_neg h]
set_option maxRecDepth 100000 in
set_option maxHeartbeats 6400000 in
theorem kcalm_any (l : List Nd) (hl : l.length ≤ 100000) {F : Nat → Prop} {v : Value} (w : World) (hs : SlAt F 3 ndC w v l) (hF : ∀ b, F b → b < w.heap.size) :
    Calls Try.prog 26 #[v] w fun e w' => e = .returned (.int .i64 (quietI l)) ∧ Below w.heap.size w w' := by
  have ce := kendsn_any jitC17 39 (fun args w => by kernel_rfl) kjit_any l hl w hs hF
  have hc := calm_is l
  obtain ⟨vx, vc, rfl⟩ := hs.slice
  rw [← hc]
  generalize leastN jitC17 l = p at *
  generalize mostN jitC17 l = q at *
  unfold Nd.val at ce
  clear hs hc
  go_enter Try.func26, Try.ntmps26
  go_wp2_with fail
  (with_reducible refine ce.mono ?_)
  rintro e w5 ⟨rfl, hb⟩
  have B5 := Lib.hid hb
  clear hb ce
  go_upto_region 2 with fail
  obtain ⟨g0, g1, gB⟩ := two_nd17 w5 #[.int .i64 p.off, .int .i64 p.jit, .int .i64 p.met] #[.int .i64 q.off, .int .i64 q.jit, .int .i64 q.met] 40
  have B6 := Lib.hid (B5.out.trans (gB.mono B5.out.size))
  generalize (w5.alloc (.cells #[.int .i64 p.off, .int .i64 p.jit, .int .i64 p.met] 40)).alloc (.cells #[.int .i64 q.off, .int .i64 q.jit, .int .i64 q.met] 40) = w6 at *
  obtain ⟨_, x1, _, _⟩ := three_at17 g0
  clear g0 g1 gB B5
  go_wp2_with fail
  go_ret
  exact ⟨rfl, B6.out⟩
set_option maxRecDepth 100000 in
set_option maxHeartbeats 6400000 in
theorem csprd_any (l : List Nd) (tl : ∀ c ∈ l, c.Typed) (hl : l.length ≤ 100) {F : Nat → Prop} {v : Value} (w : World) (hs : SlAt F 3 ndC w v l) (hF : ∀ b, F b → b < w.heap.size) :
    Calls Try.prog 17 #[v] w fun e w' => e = .returned (.int .i64 (spreadI l)) ∧ Below w.heap.size w w' := by
  have ce := kendsn_any offC17 34 (fun args w => by kernel_rfl) koff_any l (by omega) w hs hF
  have h1 := low_is l
  have h2 := high_is l
  have t1 : (leastN offC17 l).Typed := pk_typed lessT offC17 tl _
  have t2 : (mostN offC17 l).Typed := pk_typed moreT offC17 tl _
  obtain ⟨vx, vc, rfl⟩ := hs.slice
  rw [spread_is l, ← h1, ← h2]
  generalize leastN offC17 l = p at *
  generalize mostN offC17 l = q at *
  have cs := sub_any q.off p.off t2.off.1 t2.off.2 t1.off.1 t1.off.2
  generalize subI q.off p.off = y at *
  unfold Nd.val at ce
  clear hs h1 h2 t1 t2 tl
  go_enter Try.func17, Try.ntmps17
  go_wp2_with fail
  (with_reducible refine ce.mono ?_)
  rintro e w5 ⟨rfl, hb⟩
  have B5 := Lib.hid hb
  clear hb ce
  go_upto_region 2 with fail
  obtain ⟨g0, g1, gB⟩ := two_nd17 w5 #[.int .i64 p.off, .int .i64 p.jit, .int .i64 p.met] #[.int .i64 q.off, .int .i64 q.jit, .int .i64 q.met] 40
  have B6 := Lib.hid (B5.out.trans (gB.mono B5.out.size))
  generalize (w5.alloc (.cells #[.int .i64 p.off, .int .i64 p.jit, .int .i64 p.met] 40)).alloc (.cells #[.int .i64 q.off, .int .i64 q.jit, .int .i64 q.met] 40) = w6 at *
  obtain ⟨x0, _, _, _⟩ := three_at17 g0
  obtain ⟨z0, _, _, _⟩ := three_at17 g1
  clear g0 g1 gB B5
  go_wp2_with fail
  (with_reducible refine (cs _).mono ?_)
  rintro e w7 ⟨rfl, rfl⟩
  go_wp2_with fail
  go_ret
  exact ⟨rfl, B6.out⟩
theorem info_intC : (Try.prog.info? 3).map (fun i => (i.zero, i.size, i.bytes)) = some (some (.int .i64 0), 1, 8) := by kernel_rfl
/-- A row of n numbers of which the first k are their places. -/
def NumRow (n k : Nat) (C : Array Value) : Prop := C.size = n * 1 ∧ ∀ j, j < k → C[j]? = some (.int .i64 (j : Int))
theorem num_set {n k : Nat} {C : Array Value} (h : NumRow n k C) (hk : k < n) : NumRow n (k + 1) (C.setIfInBounds k (.int .i64 (k : Int))) := by
  have hs : C.size = n * 1 := h.1
  refine ⟨by simp only [Array.size_setIfInBounds]; exact hs, fun j hj => ?_⟩
  rw [Array.getElem?_setIfInBounds]
  by_cases e : j = k
  · subst e
    rw [if_pos rfl, if_pos (by omega)]
  · rw [if_neg (by omega)]
    exact h.2 j (by omega)
theorem num_cell {w : World} {b : Nat} {C : Array Value} {t : TypeId} {n k : Nat} (hb : w.heap[b]? = some (.cells C t (0, 0))) (h : NumRow n k C) {i : Nat} (hi : i < n) : ∃ u, w.cell? ⟨b, i, none⟩ = some u ∧ ∀ j, w.frozen? ⟨b, j, none⟩ = false := by
  have hs := h.1
  refine ⟨C[i]'(by omega), ?_, fun j => by simp [World.frozen?, hb]⟩
  have : i < C.size := by omega
  simp [World.cell?, hb, this]
theorem num_own {w : World} {B b n : Nat} {C : Array Value} {t : TypeId} (hb : w.heap[b]? = some (.cells C t (0, 0))) (h : NumRow n n C) (hB : B ≤ b) (hn : n ≤ 100) : w.ownsRow B t 1 (.slice (some ⟨b, 0, none⟩) n n) n ((List.range n).flatMap plE) := by
  have hs := h.1
  have e : C.toList = (List.range n).flatMap plE := by
    apply List.ext_getElem?
    intro j
    by_cases hj : j < n
    · rw [Array.getElem?_toList, h.2 j hj]
      have := flat_at 1 plE (fun _ => rfl) (List.range n) j j (by simp [hj]) 0 (.int .i64 (j : Int)) rfl
      rw [Nat.mul_one, Nat.add_zero] at this
      exact this.symm
    · rw [List.getElem?_eq_none (by rw [Array.length_toList]; omega), List.getElem?_eq_none (by rw [flat_length 1 plE (fun _ => rfl), List.length_range]; omega)]
  refine ⟨by rw [flat_length 1 plE (fun _ => rfl), List.length_range], .inr ⟨b, n, C, rfl, hB, hb, Nat.le_refl _, by unfold maxLen; omega, hs, ?_⟩⟩
  rw [← e, List.take_of_length_le (by rw [Array.length_toList]; omega)]
set_option maxRecDepth 100000 in
set_option maxHeartbeats 6400000 in
theorem knum_any (n : Nat) (hn : n ≤ 100) (w : World) :
    Calls Try.prog 24 #[.int .i64 (n : Int)] w fun e w' => ∃ b, e = .returned (.slice (some ⟨b, 0, none⟩) n n) ∧ w'.ownsRow w.heap.size 3 1 (.slice (some ⟨b, 0, none⟩) n n) n ((List.range n).flatMap plE) ∧ Below w.heap.size w w' := by
  obtain ⟨i0, hi, hz0, hz1, hz2⟩ := info_parts info_intC
  have hm1 : ∀ W, (Instr.makeSlice 29 (.int .i64 (n : Int)) (.int .i64 (n : Int))).run Try.prog W = .ok (.slice (some ⟨W.heap.size, 0, none⟩) n n) (W.alloc (.cells (madeCells #[.int .i64 0] (n * 1)) 3)) := fun W => by
    have := run_make (P := Try.prog) W 29 3 i0 (.int .i64 0) Try.underlying29 hi hz0 .i64 .i64 n n (by omega) (by omega) (by rw [hz2]; omega) (by omega)
    rw [hz1, show ((n : Int)).toNat = n by omega] at this
    exact this
  generalize hRR : madeCells #[.int .i64 0] (n * 1) = RR at hm1
  have hP : NumRow n 0 RR := ⟨by rw [← hRR, size_madeCells], fun j hj => absurd hj (Nat.not_lt_zero _)⟩
  have H0 := Lib.hid (And.intro (heap_alloc_new w (.cells RR 3)) (And.intro hP ((Below.refl w.heap.size w).alloc (Nat.le_refl _) (.cells RR 3))))
  clear hRR hP hi hz0 hz1 hz2
  go_enter Try.func24, Try.ntmps24
  go_upto_region 2 with fail
  generalize w.alloc (.cells RR 3) = w1 at *
  clear hm1
  go_wp2_with fail
  go_loopw [9] (fun i wr => ∃ (k : Nat) (C : Array Value), k ≤ n ∧ i = .int .i64 (k : Int) ∧ Hid (wr.heap[w.heap.size]? = some (.cells C 3 (0, 0)) ∧ NumRow n k C ∧ Below w.heap.size w wr)) (fun i _ => n - (intOf i).toNat)
  case atStart => exact ⟨0, RR, Nat.zero_le _, rfl, H0⟩
  case round =>
    obtain ⟨k, C, hk, rfl, HC⟩ := hrel
    clear H0
    by_cases hlt : k < n
    · have i1 : (k : Int) < n := by omega
      have i0' : (0 : Int) ≤ (k : Int) := by omega
      obtain ⟨hC, hP, hB⟩ := HC.out
      obtain ⟨u0, q0, qf⟩ := num_cell hC hP hlt
      have HN := Lib.hid (And.intro (block_set k (.int .i64 (k : Int)) hC) (And.intro (num_set hP hlt) (hB.setCell (p := ⟨w.heap.size, k, none⟩) (Nat.le_refl _) (.int .i64 (k : Int)))))
      clear hC hP hB HC
      go_wp2_with fail
      go_roundw
      case rel => exact ⟨k + 1, _, by omega, by go_num, HN⟩
      case measure => simp [intOf]; omega
    · have enl : k = n := by omega
      subst enl
      have i1 : ¬ (k : Int) < k := by omega
      go_wp2_with fail
      go_ret
      exact ⟨_, rfl, num_own HC.out.1 HC.out.2.1 (Nat.le_refl _) hn, HC.out.2.2⟩
end Go.Proofs.Ytefjdmbioclddaa.W
