/- What the laws of layer 7 call besides: a call at both clocks; the small case that must go well. -/
import Derived.Test.YtaklalpbncdijaaLgV
import Derived.Test.YtaklalpbncdijaaLgD
import Derived.Test.YtaklalpbncdijaaHdC
namespace Go.Proofs.Ytaklalpbncdijaa.W
open Go.RowKit Go.Sort
set_option linter.unusedVariables false
set_option linter.unusedSimpArgs false
/-- Both clocks, apart. -/
structure Both (w0 w : World) (pc pr : Nat) (c : Ck) : Prop where
  both : ∃ F G, CkIn F w pc c ∧ RkIn G w pr c ∧ (∀ k, F k → ¬ G k) ∧ (∀ k, F k → w0.heap.size ≤ k) ∧ (∀ k, G k → w0.heap.size ≤ k)
  below : Below w0.heap.size w0 w
theorem Both.kept {w0 w w' : World} {pc pr : Nat} {c : Ck} (h : Both w0 w pc pr c) (t : Below w.heap.size w w') : Both w0 w' pc pr c := by
  obtain ⟨⟨F, G, h1, h2, h3, h4, h5⟩, hB⟩ := h
  exact ⟨⟨F, G, h1.below t, h2.below t, h3, h4, h5⟩, hB.trans (t.mono hB.size)⟩
theorem both_step {w0 wa w1 w2 : World} {pc pr : Nat} {c1 : Ck} {F G : Nat → Prop} (lt1 : ∀ k, F k → k < wa.heap.size) (lt2 : ∀ k, G k → k < wa.heap.size) (h3 : ∀ k, F k → ¬ G k) (h4 : ∀ k, F k → w0.heap.size ≤ k) (h5 : ∀ k, G k → w0.heap.size ≤ k)
    (hB : Below w0.heap.size w0 wa) (t1 : Touch F wa w1) (hC1 : CkIn (Gr F wa w1) w1 pc c1) (t2 : Touch G w1 w2) (hR2 : RkIn (Gr G w1 w2) w2 pr c1) : Both w0 w2 pc pr c1 := by
  have d1 : ∀ k, Gr F wa w1 k → ¬ G k := by
    rintro k (hk | hk) hg
    · exact h3 k hk hg
    · have := lt2 k hg
      omega
  have B1 := t1.below hB hB.size h4
  refine ⟨⟨Gr F wa w1, Gr G w1 w2, hC1.kept t2 d1, hR2, ?_, ?_, ?_⟩, t2.below B1 B1.size h5⟩
  · rintro k hk (hg | hg)
    · exact d1 k hk hg
    · have := hC1.lt k hk
      omega
  · rintro k (hk | hk)
    · exact h4 k hk
    · have := hB.size
      omega
  · rintro k (hk | hk)
    · exact h5 k hk
    · have := B1.size
      omega
theorem act_cells {w : World} {b : Nat} {x y z : Value} {u : Value} {t : TypeId} (h : w.heap[b]? = some (.cells #[u, x, y, z] t (0, 0))) :
    w.cell? ⟨b, 1, none⟩ = some x ∧ w.cell? ⟨b, 2, none⟩ = some y ∧ w.cell? ⟨b, 3, none⟩ = some z := by
  refine ⟨?_, ?_, ?_⟩ <;> simp [World.cell?, h]
set_option maxRecDepth 100000 in
set_option maxHeartbeats 6400000 in
theorem does_any {w0 : World} {pc pr : Nat} {c : Ck} (ok : c.Ok) (a : Ac) (ta : a.Typed) (w : World) (hb : Both w0 w pc pr c) :
    Calls Try.prog 10 #[.pointer (some ⟨pc, 0, none⟩), .pointer (some ⟨pr, 0, none⟩), .agg #[.int .i64 a.kind, .int .i64 a.raw, .int .i64 a.by_, .bool a.step]] w fun e w' => e = .returned (.bool true) ∧ Both w0 w' pc pr (actS c a) := by
  obtain ⟨kd, raw, bb, st⟩ := a
  obtain ⟨⟨k0, k1⟩, ⟨r0, r1⟩, ⟨b0, b1⟩⟩ := ta
  simp only [] at k0 k1 r0 r1 b0 b1 ⊢
  have hA : Below w.heap.size w (w.alloc (.cells #[.int .i64 kd, .int .i64 raw, .int .i64 bb, .bool st] 30)) := Below.alloc (Below.refl _ _) (Nat.le_refl _) _
  have hA2 : Below w.heap.size w (w.alloc (.cells #[.int .i64 kd, .int .i64 raw, .int .i64 bb, .bool st] 30)).drew := hA.drew
  have hab : (w.alloc (.cells #[.int .i64 kd, .int .i64 raw, .int .i64 bb, .bool st] 30)).drew.heap[w.heap.size]? = some (.cells #[.int .i64 kd, .int .i64 raw, .int .i64 bb, .bool st] 30 (0, 0)) := heap_alloc_new _ _
  have l1 : w.heap.size < (w.alloc (.cells #[.int .i64 kd, .int .i64 raw, .int .i64 bb, .bool st] 30)).drew.heap.size := (Array.getElem?_eq_some_iff.1 hab).1
  have HBo := Lib.hid hb
  obtain ⟨⟨F, G, h1, h2, h3, h4, h5⟩, hB⟩ := hb
  have n1 : ¬ F w.heap.size := fun h => by have := h1.lt _ h; omega
  have n2 : ¬ G w.heap.size := fun h => by have := h2.lt _ h; omega
  have lt1 : ∀ k, F k → k < (w.alloc (.cells #[.int .i64 kd, .int .i64 raw, .int .i64 bb, .bool st] 30)).drew.heap.size := fun k hk => Nat.lt_trans (h1.lt k hk) l1
  have lt2 : ∀ k, G k → k < (w.alloc (.cells #[.int .i64 kd, .int .i64 raw, .int .i64 bb, .bool st] 30)).drew.heap.size := fun k hk => Nat.lt_trans (h2.lt k hk) l1
  have hC := h1.below hA2
  have hR := h2.below hA2
  have hBA := hB.trans (hA2.mono hB.size)
  have d2 : ∀ k, G k → ¬ F k := fun k hg hf => h3 k hf hg
  by_cases q0 : kd = 0
  · have es : actS c ⟨kd, raw, bb, st⟩ = corS c raw bb st := by unfold actS; rw [if_pos q0]
    rw [es]
    clear es h1 h2 hB hA hA2
    subst q0
    go_enter Try.func10, Try.ntmps10
    go_wp2_with fail
    go_region_held3 (fun w' => w'.cell? ⟨w.heap.size, 1, none⟩ = some (.int .i64 raw) ∧ w'.cell? ⟨w.heap.size, 2, none⟩ = some (.int .i64 bb) ∧ w'.cell? ⟨w.heap.size, 3, none⟩ = some (.bool st))
      (first | exact act_cells hab | exact act_cells ((t1.block _ l1 n1).trans hab) | exact act_cells ((t2.block _ (Nat.lt_of_lt_of_le l1 t1.size) n2).trans ((t1.block _ l1 n1).trans hab)))
      (first
        | (go_at_call 18; refine (ccor_any ok _ _ _ r0 r1 b0 b1 _ hC).mono ?_; rintro e w1 ⟨rfl, hC1, t1⟩)
        | (go_at_call 22; refine (rcor_any ok _ _ _ r0 r1 _ (hR.kept t1 d2)).mono ?_; rintro e w2 ⟨rfl, hR2, t2⟩))
    go_wp2_with fail
    go_ret
    exact ⟨rfl, both_step lt1 lt2 h3 h4 h5 hBA t1 hC1 t2 hR2⟩
  · by_cases q1 : kd = 1
    · have es : actS c ⟨kd, raw, bb, st⟩ = ratS c raw bb := by unfold actS; rw [if_neg q0, if_pos q1]
      rw [es]
      clear es h1 h2 hB hA hA2 q0
      subst q1
      go_enter Try.func10, Try.ntmps10
      go_wp2_with fail
      go_region_held3 (fun w' => w'.cell? ⟨w.heap.size, 1, none⟩ = some (.int .i64 raw) ∧ w'.cell? ⟨w.heap.size, 2, none⟩ = some (.int .i64 bb) ∧ w'.cell? ⟨w.heap.size, 3, none⟩ = some (.bool st))
        (first | exact act_cells hab | exact act_cells ((t1.block _ l1 n1).trans hab) | exact act_cells ((t2.block _ (Nat.lt_of_lt_of_le l1 t1.size) n2).trans ((t1.block _ l1 n1).trans hab)))
        (first
          | (go_at_call 20; refine (crate_any ok _ _ r0 r1 b0 b1 _ hC).mono ?_; rintro e w1 ⟨rfl, hC1, t1⟩)
          | (go_at_call 23; refine (rrate_any ok _ _ r0 r1 _ (hR.kept t1 d2)).mono ?_; rintro e w2 ⟨rfl, hR2, t2⟩))
      go_wp2_with fail
      go_ret
      exact ⟨rfl, both_step lt1 lt2 h3 h4 h5 hBA t1 hC1 t2 hR2⟩
    · have es : actS c ⟨kd, raw, bb, st⟩ = c := by unfold actS; rw [if_neg q0, if_neg q1]
      rw [es]
      clear es hA2 hab l1 n1 n2 lt1 lt2 d2 hBA h3 h4 h5 hB hC hR
      have hC := h1.below hA
      have hR := h2.below hA
      by_cases q2 : kd = 2
      · subst q2
        have y1 := cread_any ok raw r0 r1 _ hC
        clear q0 q1 k0 k1
        go_enter Try.func10, Try.ntmps10
        go_wp2_with fail
        refine y1.mono ?_
        rintro e w1 ⟨rfl, hB1⟩
        have y2 := rread_any ok raw r0 r1 w1 (hR.below hB1)
        have z1 := Nat.lt_of_lt_of_le (by simp : w.heap.size < (w.alloc (.cells #[.int .i64 2, .int .i64 raw, .int .i64 bb, .bool st] 30)).heap.size) hB1.size
        have a1 := (hB1.block w.heap.size (by simp)).trans (heap_alloc_new _ _)
        obtain ⟨x1, x2, x3⟩ := act_cells a1
        clear a1
        go_wp2_with fail
        refine y2.mono ?_
        rintro e w2 ⟨rfl, hB2⟩
        go_wp2_with fail
        go_ret
        exact ⟨rfl, HBo.out.kept (hA.trans ((hB1.mono hA.size).trans (hB2.mono (Nat.le_trans hA.size hB1.size))))⟩
      · by_cases q3 : kd = 3
        · subst q3
          have y1 := csince_any ok raw bb r0 r1 b0 b1 _ hC
          clear q0 q1 q2 k0 k1
          go_enter Try.func10, Try.ntmps10
          go_wp2_with fail
          refine y1.mono ?_
          rintro e w1 ⟨rfl, hB1⟩
          have y2 := rsince_any ok raw bb r0 r1 b0 b1 w1 (hR.below hB1)
          have z1 := Nat.lt_of_lt_of_le (by simp : w.heap.size < (w.alloc (.cells #[.int .i64 3, .int .i64 raw, .int .i64 bb, .bool st] 30)).heap.size) hB1.size
          have a1 := (hB1.block w.heap.size (by simp)).trans (heap_alloc_new _ _)
          obtain ⟨x1, x2, x3⟩ := act_cells a1
          clear a1
          go_wp2_with fail
          refine y2.mono ?_
          rintro e w2 ⟨rfl, hB2⟩
          go_wp2_with fail
          go_ret
          exact ⟨rfl, HBo.out.kept (hA.trans ((hB1.mono hA.size).trans (hB2.mono (Nat.le_trans hA.size hB1.size))))⟩
        · have e0 : (kd == 0) = false := by simpa using q0
          have e1 : (kd == 1) = false := by simpa using q1
          have e2 : (kd == 2) = false := by simpa using q2
          have e3 : (kd == 3) = false := by simpa using q3
          go_enter Try.func10, Try.ntmps10
          go_wp2_with fail
          go_ret
          exact ⟨rfl, HBo.out.kept hA⟩
end Go.Proofs.Ytaklalpbncdijaa.W
