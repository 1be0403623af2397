/- Layer 16's own code, walked: the first edge from which on so many are counted; the Mids on the way to it. -/
import Derived.Test.YtkbjmcgnjhpkiaaMwE
namespace Go.Proofs.Ytkbjmcgnjhpkiaa.W
open Go.RowKit Go.Shelf Go.Sort
set_option linter.unusedVariables false
set_option linter.unusedSimpArgs false
attribute [local go_sem] Oper.semAt_some
def egD : Option Eg → Eg
  | some e => e
  | none => ⟨0, 0⟩
def wdL (pre : List Wed) : List (Eg × Int) := pre.map fun x => x.1
theorem wd_snoc (pre : List Wed) (x : Wed) : wdL (pre ++ [x]) = wdL pre ++ [x.1] := by simp [wdL]
theorem wd_length (pre : List Wed) : (wdL pre).length = pre.length := by simp [wdL]
theorem wd_bound (pre : List Wed) : -(pre.length : Int) ≤ sumM (wdL pre) ∧ sumM (wdL pre) ≤ pre.length := by
  have := sum_bound (L := wdL pre) (fun x hx => by
    obtain ⟨y, _, rfl⟩ := List.mem_map.1 hx
    exact y.2.2)
  rw [wd_length] at this
  exact this
theorem reach_prefix {many c : Int} {P L : List (Eg × Int)} (h : P <+: L) {e : Eg} (hP : reachF many c P = some e) : reachF many c L = some e := by
  obtain ⟨R, rfl⟩ := h
  induction P generalizing c with
  | nil => cases hP
  | cons x r ih =>
    rw [List.cons_append]
    unfold reachF at hP ⊢
    split
    · rename_i hm
      rw [if_pos hm] at hP
      exact hP
    · rename_i hm
      rw [if_neg hm] at hP
      exact ih hP
theorem put_other16 {W : World} {D B : Nat} {o o' : Obj} {cs : Array Value} {t : TypeId} {fr : Nat × Nat} (hK : W.heap[D]? = some o) (ho : o.isCells = false) (h : W.heap[B]? = some (.cells cs t fr)) : (W.putObj D o').heap[B]? = some (.cells cs t fr) := by
  refine (World.putObj_heap_other (fun e => ?_)).trans h
  subst e
  rw [hK] at h
  cases h
  cases ho
theorem kb_below {n₀ : Nat} {w : World} (hn : n₀ ≤ w.heap.size) (X : World) (k : Nat) (o o' : Obj) (hk : w.heap.size ≤ k) (ho : X.heap[k]? = some o) (_ : o.isCells = false) : Below n₀ X (X.putObj k o') :=
  (Below.refl n₀ X).grown (grownBy_putObj' X k o') (by have := (Array.getElem?_eq_some_iff.1 ho).1; omega) (fun j e => by cases e; omega)
theorem four_new16 (w : World) (A B C D : Array Value) (ta tb tc td : TypeId) (W : World) (h : (((w.alloc (.cells A ta)).alloc (.cells B tb)).alloc (.cells C tc)).alloc (.cells D td) = W) :
    W.heap[w.heap.size]? = some (.cells A ta (0, 0)) ∧ W.heap[w.heap.size + 1]? = some (.cells B tb (0, 0)) ∧ W.heap[w.heap.size + 1 + 1]? = some (.cells C tc (0, 0)) ∧ W.heap[w.heap.size + 1 + 1 + 1]? = some (.cells D td (0, 0)) ∧ Below w.heap.size w W ∧ W.heap.size = w.heap.size + 4 := by
  subst h
  have a1 := heap_alloc_new w (.cells A ta)
  have z1 := World.size_alloc w (.cells A ta)
  have b1 := (Below.refl w.heap.size w).alloc (Nat.le_refl _) (.cells A ta)
  generalize w.alloc (.cells A ta) = w1 at *
  have a2 := heap_alloc_new w1 (.cells B tb)
  have z2 := World.size_alloc w1 (.cells B tb)
  have b2 := b1.alloc (by omega) (.cells B tb)
  have c1 := (Below.heap_alloc w1 (.cells B tb) _ (by omega)).trans a1
  generalize w1.alloc (.cells B tb) = w2 at *
  have a3 := heap_alloc_new w2 (.cells C tc)
  have z3 := World.size_alloc w2 (.cells C tc)
  have b3 := b2.alloc (by omega) (.cells C tc)
  have d1 := (Below.heap_alloc w2 (.cells C tc) _ (by omega)).trans c1
  have d2 := (Below.heap_alloc w2 (.cells C tc) _ (by omega)).trans a2
  generalize w2.alloc (.cells C tc) = w3 at *
  have a4 := heap_alloc_new w3 (.cells D td)
  have z4 := World.size_alloc w3 (.cells D td)
  have b4 := b3.alloc (by omega) (.cells D td)
  have e1 := (Below.heap_alloc w3 (.cells D td) _ (by omega)).trans d1
  have e2 := (Below.heap_alloc w3 (.cells D td) _ (by omega)).trans d2
  have e3 := (Below.heap_alloc w3 (.cells D td) _ (by omega)).trans a3
  rw [z1] at e2
  rw [z2, z1] at e3
  rw [z3, z2, z1] at a4
  exact ⟨e1, e2, e3, a4, b4, by omega⟩
set_option maxRecDepth 100000 in
set_option maxHeartbeats 6400000 in
theorem mreach_any (g : Nat) (lb : Array Value) (eg : ∀ args w, (callFunc g args).run Try.prog w = .ok (.enter g args) w) (many : Int) (L : List (Eg × Int)) (N : Nat) (hN : N ≤ 100000) (n₀ : Nat) (w : World) (hn : n₀ ≤ w.heap.size)
    (hy : Yields Try.prog g lb wedE (Below n₀) (fun ys => wdL ys = L) (fun ys => wdL ys <+: L) N w) :
    Calls Try.prog 29 #[.func (.func g) #[] lb, .int .i64 many] w fun e w' => e = .returned (.tuple #[(egD (reachF many 0 L)).val, .bool (reachF many 0 L).isSome]) ∧ Below w.heap.size w w' := by
  refine (callsIn_wide (n := 0)).1 ?_
  refine callsIn_of_wp_marks Try.func29 rfl trivial ?_ rfl
  simp only [Try.ntmps29, List.size_toArray, List.length_cons, List.length_nil, Nat.reduceAdd, Nat.reduceSub, Array.replicate_succ, Array.replicate_zero, List.push_toArray, List.append_toArray, List.nil_append, List.cons_append]
  obtain ⟨w4, hw4⟩ : ∃ w4, ((((w.alloc (.cells #[.int .i64 many] 3)).alloc (.cells #[.int .i64 0, .int .i64 0] 65)).alloc (.cells #[.bool false] 4)).alloc (.cells #[.int .i64 0] 3)) = w4 := ⟨_, rfl⟩
  obtain ⟨q0, q1, q2, q3, hB4, hz4⟩ := four_new16 _ _ _ _ _ _ _ _ _ _ hw4
  obtain ⟨c3, f3⟩ := one_at16 q3
  gi_wp2_with (rw [hw4])
  have r0 := (block_far (w := w4) (b := w.heap.size + 1 + 1 + 1) 0 (.int .i64 0) (show w.heap.size ≠ w.heap.size + 1 + 1 + 1 by omega)).trans q0
  have r1 := (block_far (w := w4) (b := w.heap.size + 1 + 1 + 1) 0 (.int .i64 0) (show w.heap.size + 1 ≠ w.heap.size + 1 + 1 + 1 by omega)).trans q1
  have r2 := (block_far (w := w4) (b := w.heap.size + 1 + 1 + 1) 0 (.int .i64 0) (show w.heap.size + 1 + 1 ≠ w.heap.size + 1 + 1 + 1 by omega)).trans q2
  have r3 := block_set 0 (.int .i64 0) q3
  have hB5 := hB4.setCell (p := ⟨w.heap.size + 1 + 1 + 1, 0, none⟩) (by show w.heap.size ≤ w.heap.size + 1 + 1 + 1; omega) (.int .i64 0)
  have hz5 : (w4.setCell ⟨w.heap.size + 1 + 1 + 1, 0, none⟩ (.int .i64 0)).heap.size = w.heap.size + 4 := (set_size _ _ _).trans hz4
  generalize w4.setCell ⟨w.heap.size + 1 + 1 + 1, 0, none⟩ (.int .i64 0) = w5 at *
  clear q0 q1 q2 q3 c3 f3 hB4 hz4 hw4
  refine range_yields (gf := g) (lb := lb) rfl eg hy (fun h k => h.trans k) (kb_below (by omega)) hB5 (fun _ => rfl)
    (fun pre X => (X.heap[w.heap.size + 1 + 1 + 1]? = some (.cells #[.int .i64 (sumM (wdL pre))] 3 (0, 0)) ∧ X.heap[w.heap.size]? = some (.cells #[.int .i64 many] 3 (0, 0)) ∧ X.heap[w.heap.size + 1]? = some (.cells #[.int .i64 0, .int .i64 0] 65 (0, 0)) ∧ X.heap[w.heap.size + 1 + 1]? = some (.cells #[.bool false] 4 (0, 0))) ∧ reachF many 0 (wdL pre) = none ∧ Below w.heap.size w X ∧ w5.heap.size ≤ X.heap.size)
    (fun c pre X => c = .ret ∧ (∃ e, reachF many 0 (wdL pre) = some e ∧ X.heap[w.heap.size + 1]? = some (.cells #[.int .i64 e.at_, .int .i64 e.sd] 65 (0, 0)) ∧ X.heap[w.heap.size + 1 + 1]? = some (.cells #[.bool true] 4 (0, 0))) ∧ Below w.heap.size w X ∧ w5.heap.size ≤ X.heap.size)
    (OwnFrom.and (OwnFrom.and ((blk_own16 _ _ fun _ => rfl).from _) (OwnFrom.and ((blk_own16 _ _ fun _ => rfl).from _) (OwnFrom.and ((blk_own16 _ _ fun _ => rfl).from _) ((blk_own16 _ _ fun _ => rfl).from _)))) (OwnFrom.and (ownFrom_pure _ _) (OwnFrom.and (ownFrom_below (Nat.le_refl _) (by omega)) ((lt_own16 _).from _))))
    (fun c => OwnFrom.and (ownFrom_pure _ _) (OwnFrom.and (fun s X Y row h hg hr => by
      obtain ⟨e, h1, h2, h3⟩ := h
      exact ⟨e, h1, (blk_own16 _ (fun _ : Unit => _) fun _ => rfl).from _ () X Y row h2 hg hr, (blk_own16 _ (fun _ : Unit => _) fun _ => rfl).from _ () X Y row h3 hg hr⟩) (OwnFrom.and (ownFrom_below (Nat.le_refl _) (by omega)) ((lt_own16 _).from _))))
    ⟨⟨r3, r0, r1, r2⟩, rfl, hB5, Nat.le_refl _⟩
    (fun x a' X => ∃ Bx, w5.heap.size ≤ Bx ∧ X.heap[Bx]? = some (.cells #[.int .i64 x.1.1.at_, .int .i64 x.1.1.sd] 65 (0, 0)) ∧ a' = { tmps := #[.func (.func g) #[] lb, .int .i64 many, undef, .pointer (some ⟨w.heap.size, 0, none⟩), .pointer (some ⟨w.heap.size + 1, 0, none⟩), .pointer (some ⟨w.heap.size + 1 + 1, 0, none⟩), .pointer (some ⟨w.heap.size + 1 + 1 + 1, 0, none⟩), .pointer (some ⟨Bx, 0, none⟩), .int .i64 x.1.2, .func (.func g) #[] lb, .agg #[.int .i64 x.1.1.at_, .int .i64 x.1.1.sd], .int .i64 x.1.2, undef, undef, undef, undef, undef, undef, undef, undef], defers := [] })
    (fun x a' s X Y row h hg hr => by
      obtain ⟨Bx, h1, h2, h3⟩ := h
      exact ⟨Bx, h1, (blk_own16 Bx (fun _ : Unit => _) fun _ => rfl).from _ () X Y row h2 hg hr, h3⟩)
    ?assign ?body ?done ?stop
  case assign =>
    rintro lp pre x X K ⟨⟨h0, h1, h2, h3⟩, hr, hB, hz⟩ hK
    have fo : ∀ k, k < w5.heap.size → (X.alloc (.cells #[.int .i64 x.1.1.at_, .int .i64 x.1.1.sd] 65)).heap[k]? = X.heap[k]? := fun k hk => Below.heap_alloc X _ k (by omega)
    have HK := Lib.hid (And.intro ((fo _ (by omega)).trans h0) (And.intro ((fo _ (by omega)).trans h1) (And.intro ((fo _ (by omega)).trans h2) ((fo _ (by omega)).trans h3))))
    have hsB := hB.size
    unfold wedE Eg.val
    clear h0 h1 h2 h3 r0 r1 r2 r3 hB5 fo
    gi_wp2_with fail
    exact hK _ _ (Fixed.alloc _ _ _) ((Below.refl _ X).alloc (by omega) _) ⟨HK.out, hr, hB.alloc hsB _, by rw [World.size_alloc]; omega⟩ ⟨X.heap.size, hz, heap_alloc_new _ _, rfl⟩
  case body =>
    rintro lp pre x a' X hlp ⟨⟨h0, h1, h2, h3⟩, hr, hB, hz⟩ ⟨Bx, hBx, hblk, rfl⟩ hlt
    obtain ⟨a0, fa⟩ := one_at16 h0
    obtain ⟨m0, _⟩ := one_at16 h1
    obtain ⟨e0, e1, fe⟩ := two_at16 h2
    obtain ⟨b0, fb⟩ := one_at16 h3
    obtain ⟨x0, x1, _⟩ := two_at16 hblk
    have hb := wd_bound pre
    have hm := x.2.2
    have hsn := reach_snoc many (wdL pre) 0 x.1
    rw [hr, Int.zero_add] at hsn
    have hsum := sum_snoc (wdL pre) x.1
    obtain ⟨t, hte⟩ : ∃ t, sumM (wdL pre) + x.1.2 = t := ⟨_, rfl⟩
    have hw : wrap64 (sumM (wdL pre) + x.1.2) = t := by unfold wrap64; omega
    rw [hte] at hsn hsum
    have H := Lib.hid (And.intro h0 (And.intro h1 (And.intro h2 (And.intro h3 hB))))
    have SN := Lib.hid (And.intro hsn hsum)
    clear h0 h1 h2 h3 hB hblk hr hb hm hsn hsum r0 r1 r2 r3 hB5 hte
    by_cases ht : t = many
    · have d1 : (t == many) = true := by rw [ht]; exact beq_self_eq_true many
      have HT := Lib.hid ht
      clear ht
      gi_wp2_with fail
      have ht := HT.out
      obtain ⟨g0, g1, g2, g3, hB⟩ := H.out
      obtain ⟨s1, s2⟩ := SN.out
      rw [if_pos ht, ← wd_snoc] at s1
      have A3 := block_set 0 (.int .i64 t) g0
      have A1 := (block_far (w := X) (b := w.heap.size + 1 + 1 + 1) 0 (.int .i64 t) (show w.heap.size + 1 ≠ w.heap.size + 1 + 1 + 1 by omega)).trans g2
      have A2 := (block_far (w := X) (b := w.heap.size + 1 + 1 + 1) 0 (.int .i64 t) (show w.heap.size + 1 + 1 ≠ w.heap.size + 1 + 1 + 1 by omega)).trans g3
      have FX : Fixed (w.heap.size + 4) X (X.setCell ⟨w.heap.size + 1 + 1 + 1, 0, none⟩ (.int .i64 t)) := Fixed.setCell X (by show w.heap.size + 1 + 1 + 1 < w.heap.size + 4; omega) _
      have BX := hB.setCell (p := ⟨w.heap.size + 1 + 1 + 1, 0, none⟩) (by show w.heap.size ≤ w.heap.size + 1 + 1 + 1; omega) (.int .i64 t)
      have ZX := set_size X ⟨w.heap.size + 1 + 1 + 1, 0, none⟩ (.int .i64 t)
      generalize X.setCell ⟨w.heap.size + 1 + 1 + 1, 0, none⟩ (.int .i64 t) = X1 at *
      have C1 := block_set 1 (.int .i64 x.1.1.sd) (block_set 0 (.int .i64 x.1.1.at_) A1)
      have C2 := ((block_far 1 (.int .i64 x.1.1.sd) (show w.heap.size + 1 + 1 ≠ w.heap.size + 1 by omega)).trans (block_far (w := X1) 0 (.int .i64 x.1.1.at_) (show w.heap.size + 1 + 1 ≠ w.heap.size + 1 by omega))).trans A2
      have F2 := (FX.trans (Fixed.setCell X1 (a := ⟨w.heap.size + 1, 0, none⟩) (by show w.heap.size + 1 < w.heap.size + 4; omega) (.int .i64 x.1.1.at_))).trans (Fixed.setCell _ (a := ⟨w.heap.size + 1, 1, none⟩) (by show w.heap.size + 1 < w.heap.size + 4; omega) (.int .i64 x.1.1.sd))
      have B2 := (BX.setCell (p := ⟨w.heap.size + 1, 0, none⟩) (by show w.heap.size ≤ w.heap.size + 1; omega) (.int .i64 x.1.1.at_)).setCell (p := ⟨w.heap.size + 1, 1, none⟩) (by show w.heap.size ≤ w.heap.size + 1; omega) (.int .i64 x.1.1.sd)
      have Z2 : ((X1.setCell ⟨w.heap.size + 1, 0, none⟩ (.int .i64 x.1.1.at_)).setCell ⟨w.heap.size + 1, 1, none⟩ (.int .i64 x.1.1.sd)).heap.size = X.heap.size := by rw [set_size, set_size, ZX]
      generalize (X1.setCell ⟨w.heap.size + 1, 0, none⟩ (.int .i64 x.1.1.at_)).setCell ⟨w.heap.size + 1, 1, none⟩ (.int .i64 x.1.1.sd) = X2 at *
      refine ⟨F2.trans (Fixed.setCell X2 (by show w.heap.size + 1 + 1 < w.heap.size + 4; omega) _), rfl, ⟨x.1.1, s1, (block_far _ _ (by omega)).trans C1, block_set 0 _ C2⟩, B2.setCell (p := ⟨w.heap.size + 1 + 1, 0, none⟩) (by show w.heap.size ≤ w.heap.size + 1 + 1; omega) _, ?_⟩
      rw [set_size, Z2]
      omega
    · have d1 : (t == many) = false := beq_eq_false_iff_ne.2 ht
      have HT := Lib.hid ht
      clear ht
      gi_wp2_with fail
      have ht := HT.out
      obtain ⟨g0, g1, g2, g3, hB⟩ := H.out
      obtain ⟨s1, s2⟩ := SN.out
      rw [if_neg ht, ← wd_snoc] at s1
      rw [← wd_snoc] at s2
      refine ⟨Fixed.setCell X (by show w.heap.size + 1 + 1 + 1 < w.heap.size + 4; omega) _, (Below.refl n₀ X).setCell (p := ⟨w.heap.size + 1 + 1 + 1, 0, none⟩) (by show n₀ ≤ w.heap.size + 1 + 1 + 1; omega) _, ⟨?_, (block_far _ _ (by omega)).trans g1, (block_far _ _ (by omega)).trans g2, (block_far _ _ (by omega)).trans g3⟩, s1, hB.setCell (p := ⟨w.heap.size + 1 + 1 + 1, 0, none⟩) (by show w.heap.size ≤ w.heap.size + 1 + 1 + 1; omega) _, by rw [set_size]; omega⟩
      rw [s2]
      exact block_set 0 _ g0
  case done =>
    rintro D xs X hD hS ⟨⟨h0, h1, h2, h3⟩, hr, hB, hz⟩ hK
    have hv : reachF many 0 L = none := by rw [← hS]; exact hr
    have HV := Lib.hid hv
    obtain ⟨e0, e1, fe⟩ := two_at16 h2
    obtain ⟨b0, fb⟩ := one_at16 h3
    have H := Lib.hid (And.intro h2 (And.intro h3 hB))
    clear h0 h1 h2 h3 hB r0 r1 r2 r3 hB5 hr hv hS
    gi_wp2_with fail
    obtain ⟨g2, g3, hB⟩ := H.out
    have C1 := block_set 1 (.int .i64 0) (block_set 0 (.int .i64 0) g2)
    have C2 := ((block_far 1 (.int .i64 0) (show w.heap.size + 1 + 1 ≠ w.heap.size + 1 by omega)).trans (block_far (w := X) 0 (.int .i64 0) (show w.heap.size + 1 + 1 ≠ w.heap.size + 1 by omega))).trans g3
    have B2 := (hB.setCell (p := ⟨w.heap.size + 1, 0, none⟩) (by show w.heap.size ≤ w.heap.size + 1; omega) (.int .i64 0)).setCell (p := ⟨w.heap.size + 1, 1, none⟩) (by show w.heap.size ≤ w.heap.size + 1; omega) (.int .i64 0)
    have K2 := ((KeepsOthers.setCell X ⟨w.heap.size + 1, 0, none⟩ (.int .i64 0)).trans (KeepsOthers.setCell _ ⟨w.heap.size + 1, 1, none⟩ (.int .i64 0))).same D _ hK rfl
    generalize (X.setCell ⟨w.heap.size + 1, 0, none⟩ (.int .i64 0)).setCell ⟨w.heap.size + 1, 1, none⟩ (.int .i64 0) = X2 at *
    have D1 := (block_far (w := X2) (b := w.heap.size + 1 + 1) 0 (.bool false) (show w.heap.size + 1 ≠ w.heap.size + 1 + 1 by omega)).trans C1
    have D2 := block_set 0 (.bool false) C2
    have B3 := B2.setCell (p := ⟨w.heap.size + 1 + 1, 0, none⟩) (by show w.heap.size ≤ w.heap.size + 1 + 1; omega) (.bool false)
    have K3 := (KeepsOthers.setCell X2 ⟨w.heap.size + 1 + 1, 0, none⟩ (.bool false)).same D _ K2 rfl
    generalize X2.setCell ⟨w.heap.size + 1 + 1, 0, none⟩ (.bool false) = X3 at *
    clear e0 e1 fe b0 fb
    obtain ⟨a0, a1, _⟩ := two_at16 (put_other16 (o' := .deferred none) K3 rfl D1)
    obtain ⟨b0, _⟩ := one_at16 (put_other16 (o' := .deferred none) K3 rfl D2)
    refine ⟨by simp, .inl ⟨_, _, rfl, run_takeDeferred K3, ?_⟩⟩
    rw [HV.out]
    refine ⟨_, ?_, rfl, B3.trans (belowK_b (w := w) (Nat.le_refl _) X3 D _ _ (by omega) K3 rfl rfl)⟩
    simp [results, Try.results29, go_sem, a0, a1, b0]
    rfl
  case stop =>
    rintro D c pre X hD hSp ⟨rfl, ⟨e, h1, h2, h3⟩, hB, hz⟩ hK
    have hv : reachF many 0 L = some e := reach_prefix hSp h1
    have HV := Lib.hid hv
    have H := Lib.hid (And.intro h2 (And.intro h3 hB))
    clear h1 h2 h3 hB r0 r1 r2 r3 hB5 hv hSp
    gi_wp2_with fail
    obtain ⟨g2, g3, hB⟩ := H.out
    obtain ⟨a0, a1, _⟩ := two_at16 (put_other16 (o' := .deferred none) hK rfl g2)
    obtain ⟨b0, _⟩ := one_at16 (put_other16 (o' := .deferred none) hK rfl g3)
    refine ⟨by simp, .inl ⟨_, _, rfl, run_takeDeferred hK, ?_⟩⟩
    rw [HV.out]
    refine ⟨_, ?_, rfl, hB.trans (belowK_b (w := w) (Nat.le_refl _) X D _ _ (by omega) hK rfl rfl)⟩
    simp [results, Try.results29, go_sem, a0, a1, b0]
    rfl
theorem eg_eql (a b : Eg) (w : World) : (binOp .eql 65 a.val b.val).run Try.prog w = .ok (.bool (isEg a b)) w := by
  unfold isEg Eg.val
  by_cases h1 : a.at_ = b.at_
  · by_cases h2 : a.sd = b.sd
    · simp [go_sem, h1, h2]
    · simp [go_sem, h1, h2]
  · simp [go_sem, h1]
theorem two_new16 (w : World) (A B : Array Value) (ta tb : TypeId) (W : World) (h : (w.alloc (.cells A ta)).alloc (.cells B tb) = W) :
    W.heap[w.heap.size]? = some (.cells A ta (0, 0)) ∧ W.heap[w.heap.size + 1]? = some (.cells B tb (0, 0)) ∧ Below w.heap.size w W ∧ W.heap.size = w.heap.size + 2 := by
  subst h
  have a1 := heap_alloc_new w (.cells A ta)
  have z1 := World.size_alloc w (.cells A ta)
  have b1 := (Below.refl w.heap.size w).alloc (Nat.le_refl _) (.cells A ta)
  generalize w.alloc (.cells A ta) = w1 at *
  have a2 := heap_alloc_new w1 (.cells B tb)
  have z2 := World.size_alloc w1 (.cells B tb)
  have b2 := b1.alloc (by omega) (.cells B tb)
  have c1 := (Below.heap_alloc w1 (.cells B tb) _ (by omega)).trans a1
  rw [z1] at a2
  exact ⟨c1, a2, b2, by omega⟩
set_option maxRecDepth 100000 in
set_option maxHeartbeats 6400000 in
theorem mpassed_any (g : Nat) (lb : Array Value) (eg : ∀ args w, (callFunc g args).run Try.prog w = .ok (.enter g args) w) (tg : Eg) (L : List (Eg × Int)) (N : Nat) (hN : N ≤ 100000) (n₀ : Nat) (w : World) (hn : n₀ ≤ w.heap.size)
    (hy : Yields Try.prog g lb wedE (Below n₀) (fun ys => wdL ys = L) (fun ys => wdL ys <+: L) N w) :
    Calls Try.prog 30 #[.func (.func g) #[] lb, tg.val] w fun e w' => e = .returned (.int .i64 (passF tg L : Int)) ∧ Below w.heap.size w w' := by
  have heq := fun x : Eg => eg_eql x tg
  unfold Eg.val at *
  refine (callsIn_wide (n := 0)).1 ?_
  refine callsIn_of_wp_marks Try.func30 rfl trivial ?_ rfl
  simp only [Try.ntmps30, List.size_toArray, List.length_cons, List.length_nil, Nat.reduceAdd, Nat.reduceSub, Array.replicate_succ, Array.replicate_zero, List.push_toArray, List.append_toArray, List.nil_append, List.cons_append]
  obtain ⟨w4, hw4⟩ : ∃ w4, ((w.alloc (.cells #[.int .i64 tg.at_, .int .i64 tg.sd] 65)).alloc (.cells #[.int .i64 0] 3)) = w4 := ⟨_, rfl⟩
  obtain ⟨q0, q1, hB4, hz4⟩ := two_new16 _ _ _ _ _ _ hw4
  obtain ⟨c3, f3⟩ := one_at16 q1
  gi_wp2_with (rw [hw4])
  have r0 := (block_far (w := w4) (b := w.heap.size + 1) 0 (.int .i64 0) (show w.heap.size ≠ w.heap.size + 1 by omega)).trans q0
  have r1 := block_set 0 (.int .i64 0) q1
  have hB5 := hB4.setCell (p := ⟨w.heap.size + 1, 0, none⟩) (by show w.heap.size ≤ w.heap.size + 1; omega) (.int .i64 0)
  have hz5 : (w4.setCell ⟨w.heap.size + 1, 0, none⟩ (.int .i64 0)).heap.size = w.heap.size + 2 := (set_size _ _ _).trans hz4
  generalize w4.setCell ⟨w.heap.size + 1, 0, none⟩ (.int .i64 0) = w5 at *
  clear q0 q1 c3 f3 hB4 hz4 hw4
  refine range_yields (gf := g) (lb := lb) rfl eg hy (fun h k => h.trans k) (kb_below (by omega)) hB5 (fun _ => rfl)
    (fun pre X => (X.heap[w.heap.size + 1]? = some (.cells #[.int .i64 (passF tg (wdL pre) : Int)] 3 (0, 0)) ∧ X.heap[w.heap.size]? = some (.cells #[.int .i64 tg.at_, .int .i64 tg.sd] 65 (0, 0))) ∧ (∀ y ∈ wdL pre, y.1 ≠ tg) ∧ Below w.heap.size w X ∧ w5.heap.size ≤ X.heap.size)
    (fun c pre X => c = .exit 0 ∧ (∃ p x, pre = p ++ [x] ∧ (∀ y ∈ wdL p, y.1 ≠ tg) ∧ x.1.1 = tg ∧ X.heap[w.heap.size + 1]? = some (.cells #[.int .i64 (passF tg (wdL p) : Int)] 3 (0, 0))) ∧ Below w.heap.size w X ∧ w5.heap.size ≤ X.heap.size)
    (OwnFrom.and (OwnFrom.and ((blk_own16 _ _ fun _ => rfl).from _) ((blk_own16 _ _ fun _ => rfl).from _)) (OwnFrom.and (ownFrom_pure _ _) (OwnFrom.and (ownFrom_below (Nat.le_refl _) (by omega)) ((lt_own16 _).from _))))
    (fun c => OwnFrom.and (ownFrom_pure _ _) (OwnFrom.and (fun s X Y row h hg hr => by
      obtain ⟨p, x, h0, h1, h2, h3⟩ := h
      exact ⟨p, x, h0, h1, h2, (blk_own16 _ (fun _ : Unit => _) fun _ => rfl).from _ () X Y row h3 hg hr⟩) (OwnFrom.and (ownFrom_below (Nat.le_refl _) (by omega)) ((lt_own16 _).from _))))
    ⟨⟨r1, r0⟩, by simp [wdL], hB5, Nat.le_refl _⟩
    (fun x a' X => ∃ Bx, w5.heap.size ≤ Bx ∧ X.heap[Bx]? = some (.cells #[.int .i64 x.1.1.at_, .int .i64 x.1.1.sd] 65 (0, 0)) ∧ a' = { tmps := #[.func (.func g) #[] lb, .agg #[.int .i64 tg.at_, .int .i64 tg.sd], undef, .pointer (some ⟨w.heap.size, 0, none⟩), .int .i64 0, .pointer (some ⟨w.heap.size + 1, 0, none⟩), .pointer (some ⟨Bx, 0, none⟩), .func (.func g) #[] lb, .agg #[.int .i64 x.1.1.at_, .int .i64 x.1.1.sd], .int .i64 x.1.2, undef, undef, undef, undef, undef, undef, undef, undef, undef], defers := [] })
    (fun x a' s X Y row h hg hr => by
      obtain ⟨Bx, h1, h2, h3⟩ := h
      exact ⟨Bx, h1, (blk_own16 Bx (fun _ : Unit => _) fun _ => rfl).from _ () X Y row h2 hg hr, h3⟩)
    ?assign ?body ?done ?stop
  case assign =>
    rintro lp pre x X K ⟨⟨h0, h1⟩, hr, hB, hz⟩ hK
    have fo : ∀ k, k < w5.heap.size → (X.alloc (.cells #[.int .i64 x.1.1.at_, .int .i64 x.1.1.sd] 65)).heap[k]? = X.heap[k]? := fun k hk => Below.heap_alloc X _ k (by omega)
    have HK := Lib.hid (And.intro ((fo _ (by omega)).trans h0) ((fo _ (by omega)).trans h1))
    have hsB := hB.size
    have HR := Lib.hid hr
    unfold wedE Eg.val
    clear h0 h1 r0 r1 hB5 fo hr heq
    gi_wp2_with fail
    exact hK _ _ (Fixed.alloc _ _ _) ((Below.refl _ X).alloc (by omega) _) ⟨HK.out, HR.out, hB.alloc hsB _, by rw [World.size_alloc]; omega⟩ ⟨X.heap.size, hz, heap_alloc_new _ _, rfl⟩
  case body =>
    rintro lp pre x a' X hlp ⟨⟨h0, h1⟩, hr, hB, hz⟩ ⟨Bx, hBx, hblk, rfl⟩ hlt
    obtain ⟨a0, fa⟩ := one_at16 h0
    obtain ⟨m0, m1, _⟩ := two_at16 h1
    obtain ⟨x0, x1, _⟩ := two_at16 hblk
    have hE := heq x.1.1
    have hle := pass_le tg (wdL pre)
    rw [wd_length] at hle
    have hap := pass_append tg (wdL pre) [x.1] hr
    obtain ⟨q, hq⟩ : ∃ q : Int, (passF tg (wdL pre) : Int) = q := ⟨_, rfl⟩
    have hqN : 0 ≤ q ∧ q ≤ 100000 := by omega
    rw [hq] at h0 a0
    have H := Lib.hid (And.intro h0 (And.intro h1 hB))
    have SN := Lib.hid (And.intro hap hr)
    have HQ := Lib.hid hq
    clear h0 h1 hB hblk hr hap r0 r1 hB5 heq hq
    cases hi : isEg x.1.1 tg with
    | true =>
      rw [hi] at hE
      have HI := Lib.hid hi
      clear hi
      gi_wp2_with fail
      obtain ⟨g0, g1, hB⟩ := H.out
      obtain ⟨s1, s2⟩ := SN.out
      exact ⟨Fixed.refl _ _, rfl, ⟨pre, x, rfl, s2, isEg_iff.1 HI.out, by rw [HQ.out]; exact g0⟩, hB, by omega⟩
    | false =>
      rw [hi] at hE
      have HI := Lib.hid hi
      clear hi
      by_cases hd : x.1.1.sd = 0
      · have d1 : (x.1.1.sd == 0) = true := by rw [hd]; rfl
        have hw : wrap64 (q + 1) = q + 1 := by unfold wrap64; omega
        have HD := Lib.hid hd
        clear hd
        gi_wp2_with fail
        obtain ⟨g0, g1, hB⟩ := H.out
        obtain ⟨s1, s2⟩ := SN.out
        refine ⟨Fixed.setCell X (by show w.heap.size + 1 < w5.heap.size; omega) _, (Below.refl n₀ X).setCell (p := ⟨w.heap.size + 1, 0, none⟩) (by show n₀ ≤ w.heap.size + 1; omega) _, ⟨?_, (block_far _ _ (by omega)).trans g1⟩, ?_, hB.setCell (p := ⟨w.heap.size + 1, 0, none⟩) (by show w.heap.size ≤ w.heap.size + 1; omega) _, by rw [set_size]; omega⟩
        · have e1 : passF tg (wdL (pre ++ [x])) = passF tg (wdL pre) + 1 := by
            rw [wd_snoc, s1, passF, HI.out, if_pos HD.out]
            simp [passF]
          rw [e1, Int.natCast_succ, HQ.out]
          exact block_set 0 _ g0
        · intro y hy
          rw [wd_snoc] at hy
          rcases List.mem_append.1 hy with hy | hy
          · exact s2 y hy
          · rw [List.mem_singleton.1 hy]
            exact isEg_not.1 HI.out
      · have d1 : (x.1.1.sd == 0) = false := beq_eq_false_iff_ne.2 hd
        have HD := Lib.hid hd
        clear hd
        gi_wp2_with fail
        obtain ⟨g0, g1, hB⟩ := H.out
        obtain ⟨s1, s2⟩ := SN.out
        refine ⟨Fixed.refl _ _, Below.refl _ _, ⟨?_, g1⟩, ?_, hB, by omega⟩
        · have e1 : passF tg (wdL (pre ++ [x])) = passF tg (wdL pre) := by
            rw [wd_snoc, s1, passF, HI.out, if_neg HD.out]
            simp [passF]
          rw [e1, HQ.out]
          exact g0
        · intro y hy
          rw [wd_snoc] at hy
          rcases List.mem_append.1 hy with hy | hy
          · exact s2 y hy
          · rw [List.mem_singleton.1 hy]
            exact isEg_not.1 HI.out
  case done =>
    rintro D xs X hD hS ⟨⟨h0, h1⟩, hr, hB, hz⟩ hK
    rw [hS] at h0
    obtain ⟨a0, fa⟩ := one_at16 h0
    have H := Lib.hid hB
    clear h0 h1 hB r0 r1 hB5 hr hS heq
    gi_wp2_with fail
    refine ⟨by simp, .inl ⟨_, _, rfl, run_takeDeferred hK, ?_⟩⟩
    refine ⟨_, ?_, rfl, H.out.trans (belowK_b (w := w) (Nat.le_refl _) X D _ _ (by omega) hK rfl rfl)⟩
    simp [results, Try.results30, go_sem]
  case stop =>
    rintro D c pre X hD hSp ⟨rfl, ⟨p, x, rfl, hp, hx, h0⟩, hB, hz⟩ hK
    have hv : passF tg L = passF tg (wdL p) := by
      obtain ⟨R, hR⟩ := hSp
      have e : (x.1 : Eg × Int) = (tg, x.1.2) := by rw [← hx]
      rw [← hR, wd_snoc, List.append_assoc, pass_append tg _ _ hp, List.singleton_append, e, pass_stop]
      rfl
    have HV := Lib.hid hv
    obtain ⟨a0, fa⟩ := one_at16 h0
    have H := Lib.hid hB
    clear h0 hB r0 r1 hB5 hv hSp hp hx heq
    gi_wp2_with fail
    refine ⟨by simp, .inl ⟨_, _, rfl, run_takeDeferred hK, ?_⟩⟩
    rw [HV.out]
    refine ⟨_, ?_, rfl, H.out.trans (belowK_b (w := w) (Nat.le_refl _) X D _ _ (by omega) hK rfl rfl)⟩
    simp [results, Try.results30, go_sem]
end Go.Proofs.Ytkbjmcgnjhpkiaa.W
