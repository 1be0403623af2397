/- The code's agenda, walked: an item is taken away. -/
import Derived.Test.YtcnfidfpgohpoaaAgV
import Derived.Test.YtcnfidfpgohpoaaAgD
namespace Go.Proofs.Ytcnfidfpgohpoaa.W
open Go.RowKit Go.Sort
set_option linter.unusedVariables false
set_option linter.unusedSimpArgs false
theorem flat_len4 (h : List It) : (h.flatMap itE).length = h.length * 4 := by
  induction h with
  | nil => rfl
  | cons y l ih => rw [List.flatMap_cons, List.length_append, ih, itE_length, List.length_cons]; omega
theorem take_set_self (h : List It) (L : Nat) (z : It) : (h.set L z).take L = h.take L := by
  apply List.ext_getElem?
  intro k
  by_cases hk : k < L
  · rw [List.getElem?_take_of_lt hk, List.getElem?_take_of_lt hk, List.getElem?_set_ne (by omega)]
  · rw [List.getElem?_eq_none (by simp; omega), List.getElem?_eq_none (by simp; omega)]
theorem swap_last {h : List It} {p L : Nat} {a z : It} (hp : h[p]? = some a) (hz : h[L]? = some z) (hl : h.length = L + 1) : swapL h p L a z = (h.set p z).take L ++ [a] := by
  have lp := (List.getElem?_eq_some_iff.1 hp).1
  have hll : ((h.set p z).take L).length = L := by simp; omega
  apply List.ext_getElem?
  intro k
  rw [swap_at hp hz]
  by_cases h1 : k = L
  · rw [if_pos h1, List.getElem?_append_right (by omega), hll, h1]
    simp
  · rw [if_neg h1]
    by_cases h2 : k < L
    · rw [List.getElem?_append_left (by omega), List.getElem?_take_of_lt h2]
      by_cases h3 : k = p
      · subst h3
        rw [if_pos rfl, List.getElem?_set_self (by omega)]
      · rw [if_neg h3, List.getElem?_set_ne (fun e => h3 e.symm)]
    · rw [if_neg (by omega), List.getElem?_eq_none (by omega), List.getElem?_append_right (by omega), hll, List.getElem?_eq_none (by simp; omega)]
theorem row_cut {w : World} {base : Nat} {e : TypeId} {g n cap : Nat} {h : List It} (r : w.ownsRow base e 4 (.slice (some ⟨g, 0, none⟩) n cap) n (h.flatMap itE)) (hn : h.length = n) (k : Nat) (hk : k ≤ n) :
    w.ownsRow base e 4 (.slice (some ⟨g, 0, none⟩) k cap) k ((h.take k).flatMap itE) := by
  have ht : ((h.flatMap itE).take (k * 4)) = (h.take k).flatMap itE := by
    conv => lhs; rw [← List.take_append_drop k h, List.flatMap_append]
    rw [List.take_left' (by rw [flat_len4]; simp; omega)]
  rcases r.2 with ⟨h0, _⟩ | ⟨g', cap', cur, h0, h1, h2, h3, h4, h5, h6⟩
  · simp at h0
  · simp only [Value.slice.injEq, Option.some.injEq, Addr.mk.injEq, and_true, true_and] at h0
    obtain ⟨rfl, rfl⟩ := h0
    refine ⟨by rw [flat_len4]; simp; omega, .inr ⟨g, cap, cur, rfl, h1, h2, by omega, h4, h5, ?_⟩⟩
    rw [← ht, ← h6, List.take_take]
    congr 1
    omega
set_option maxHeartbeats 6400000 in
theorem gremove_any {hb m : Nat} {v : Value} {h : List It} {n : Int} {p : Nat} {a : It} (w : World) (x : Hv w hb v m h n) (hp : h[p]? = some a) (hH : HeapF h) :
    Calls Try.prog 32 #[.pointer (some ⟨hb, 0, none⟩), .int .i64 p] w fun e w' =>
      e = .returned a.valE ∧ ∃ v' h', Hv w' hb v' m h' n ∧ v'.ownBlock = v.ownBlock ∧ (a :: h').Perm h ∧ HeapF h' ∧ Touch (fun k => k = hb ∨ Sw m v k) w w' := by
  have lp := (List.getElem?_eq_some_iff.1 hp).1
  obtain ⟨g, cap, rfl⟩ := x.at_ (by omega)
  obtain ⟨L, hL⟩ : ∃ L, h.length = L + 1 := ⟨h.length - 1, by omega⟩
  obtain ⟨z, hz⟩ : ∃ z, h[L]? = some z := ⟨_, List.getElem?_eq_getElem (by omega)⟩
  obtain ⟨p0, _, _, _⟩ := three_cells x.blk
  obtain ⟨a0, a1, a2, a3⟩ := row_cells x.row hp
  have lp' : (p : Int) < (h.length : Int) := by omega
  have i0 : (0 : Int) ≤ (p : Int) := by omega
  have hll : (h.length : Int) - 1 = (L : Int) := by omega
  obtain ⟨l1, l2, l3⟩ := x.lt
  have lg := l3 g rfl
  have n1 : hb ≠ w.heap.size := by omega
  have n2 : g ≠ w.heap.size := by omega
  have n3 : hb ≠ w.heap.size + 1 := by omega
  have n4 : g ≠ w.heap.size + 1 := by omega
  have X := Lib.hid x
  have hlen := x.len
  have hcap : L ≤ cap ∧ ¬ cap = 0 := by
    rcases x.row.2 with ⟨h0, _⟩ | ⟨g', cap', cur, h0, h1, h2, h3, _⟩
    · simp at h0
    · simp only [Value.slice.injEq, Option.some.injEq, Addr.mk.injEq, and_true, true_and] at h0
      obtain ⟨rfl, rfl⟩ := h0
      omega
  obtain ⟨hc1, hc0⟩ := hcap
  have HL := Lib.hid hL
  clear hL
  have HP := Lib.hid hp
  have HZ := Lib.hid hz
  have HH := Lib.hid hH
  obtain ⟨g1, g2⟩ := x.own g rfl
  have hbm := x.ne
  clear x hp hz hH
  unfold It.valE
  go_enter Try.func32, Try.ntmps32
  go_wp2_with fail
  go_region
  have hB1 : Below w.heap.size w ((w.alloc (.cells #[.int .i64 0, .int .i64 0, .string { data := #[] }, .int .i64 0] 39)).alloc (.cells #[.int .i64 a.at_, .int .i64 a.kind, .string (bs a.data), .int .i64 a.ticket] 39)).drew := (((Below.refl _ _).alloc (Nat.le_refl _) _).alloc (by simp) _).drew
  have hz1 : ((w.alloc (.cells #[.int .i64 0, .int .i64 0, .string { data := #[] }, .int .i64 0] 39)).alloc (.cells #[.int .i64 a.at_, .int .i64 a.kind, .string (bs a.data), .int .i64 a.ticket] 39)).drew.heap[w.heap.size]? = some (.cells #[.int .i64 0, .int .i64 0, .string { data := #[] }, .int .i64 0] 39 (0, 0)) := (Below.heap_alloc (w.alloc (.cells #[.int .i64 0, .int .i64 0, .string { data := #[] }, .int .i64 0] 39)) (.cells #[.int .i64 a.at_, .int .i64 a.kind, .string (bs a.data), .int .i64 a.ticket] 39) w.heap.size (by simp)).trans (heap_alloc_new w (.cells #[.int .i64 0, .int .i64 0, .string { data := #[] }, .int .i64 0] 39))
  have ha1 : ((w.alloc (.cells #[.int .i64 0, .int .i64 0, .string { data := #[] }, .int .i64 0] 39)).alloc (.cells #[.int .i64 a.at_, .int .i64 a.kind, .string (bs a.data), .int .i64 a.ticket] 39)).drew.heap[w.heap.size + 1]? = some (.cells #[.int .i64 a.at_, .int .i64 a.kind, .string (bs a.data), .int .i64 a.ticket] 39 (0, 0)) := by
    have := heap_alloc_new (w.alloc (.cells #[.int .i64 0, .int .i64 0, .string { data := #[] }, .int .i64 0] 39)) (.cells #[.int .i64 a.at_, .int .i64 a.kind, .string (bs a.data), .int .i64 a.ticket] 39)
    rw [World.size_alloc] at this
    exact this
  generalize ((w.alloc (.cells #[.int .i64 0, .int .i64 0, .string { data := #[] }, .int .i64 0] 39)).alloc (.cells #[.int .i64 a.at_, .int .i64 a.kind, .string (bs a.data), .int .i64 a.ticket] 39)).drew = w1 at *
  have cs := gswap_any w1 (X.out.below hB1) HP.out HZ.out
  have B1 := Lib.hid (And.intro hB1 (And.intro hz1 ha1))
  clear hB1 hz1 ha1 a0 a1 a2 a3 p0
  go_wp2_with fail
  (with_reducible refine cs.mono ?_)
  rintro e w2 ⟨rfl, hV2, hT2⟩
  clear cs
  obtain ⟨p0, p1, _, f0, _, _⟩ := three_cells hV2.blk
  have hsw : (swapL h p L a z)[L]? = some a := by rw [swap_at HP.out HZ.out, if_pos rfl]
  have hrow2 := hV2.row
  rw [swap_len] at hrow2
  obtain ⟨a0, a1, a2, a3⟩ := row_cells (h := swapL h p L a z) (by rw [swap_len]; exact hrow2) hsw
  have rf := row_frozen hrow2
  have l0' : (0 : Int) ≤ (L : Int) := by omega
  have ll' : (L : Int) < (h.length : Int) := by omega
  have V2 := Lib.hid (And.intro hV2 hT2)
  clear hV2 hT2
  go_wp2_with fail
  have hlen1 : h.length = L + 1 := HL.out
  have hlsw : (swapL h p L a z).length = L + 1 := by rw [swap_len, hlen1]
  have hr3 : (((((w2.setCell ⟨g, L * 4, none⟩ (.int .i64 0)).setCell ⟨g, L * 4 + 1, none⟩ (.int .i64 0)).setCell ⟨g, L * 4 + 2, none⟩ (.string { data := #[] })).setCell ⟨g, L * 4 + 3, none⟩ (.int .i64 0))).ownsRow 0 39 4 (.slice (some ⟨g, 0, none⟩) h.length cap) h.length (((swapL h p L a z).set L itZero).flatMap itE) := row_set hrow2 L itZero (by omega)
  have e5 : ((swapL h p L a z).set L itZero).take L = (h.set p z).take L := by rw [take_set_self, swap_last HP.out HZ.out hlen1, List.take_left' (by simp; omega)]
  have hr4 := row_cut hr3 (by simp [hlsw, hlen1]) L (by omega)
  rw [e5] at hr4
  have hr5 : ((((((w2.setCell ⟨g, L * 4, none⟩ (.int .i64 0)).setCell ⟨g, L * 4 + 1, none⟩ (.int .i64 0)).setCell ⟨g, L * 4 + 2, none⟩ (.string { data := #[] })).setCell ⟨g, L * 4 + 3, none⟩ (.int .i64 0))).setCell ⟨hb, 0, none⟩ (.slice (some ⟨g, 0, none⟩) L cap)).ownsRow 0 39 4 (.slice (some ⟨g, 0, none⟩) L cap) L (((h.set p z).take L).flatMap itE) :=
    row_of_block hr4 (fun g' hg' => by cases hg'; exact block_far _ _ g1)
  have hb5 : ((((((w2.setCell ⟨g, L * 4, none⟩ (.int .i64 0)).setCell ⟨g, L * 4 + 1, none⟩ (.int .i64 0)).setCell ⟨g, L * 4 + 2, none⟩ (.string { data := #[] })).setCell ⟨g, L * 4 + 3, none⟩ (.int .i64 0))).setCell ⟨hb, 0, none⟩ (.slice (some ⟨g, 0, none⟩) L cap)).heap[hb]? = some (.cells #[(.slice (some ⟨g, 0, none⟩) L cap), .map (some m), .int .i64 n] 65 (0, 0)) :=
    block_set 0 (.slice (some ⟨g, 0, none⟩) L cap) ((block_far _ _ (fun e => g1 e.symm)).trans ((block_far _ _ (fun e => g1 e.symm)).trans ((block_far _ _ (fun e => g1 e.symm)).trans ((block_far _ _ (fun e => g1 e.symm)).trans V2.out.1.blk))))
  have hk5 : ∀ k, k ≠ g → k ≠ hb → ((((((w2.setCell ⟨g, L * 4, none⟩ (.int .i64 0)).setCell ⟨g, L * 4 + 1, none⟩ (.int .i64 0)).setCell ⟨g, L * 4 + 2, none⟩ (.string { data := #[] })).setCell ⟨g, L * 4 + 3, none⟩ (.int .i64 0))).setCell ⟨hb, 0, none⟩ (.slice (some ⟨g, 0, none⟩) L cap)).heap[k]? = w2.heap[k]? := fun k k1 k2 =>
    (block_far _ _ k2).trans ((block_far _ _ k1).trans ((block_far _ _ k1).trans ((block_far _ _ k1).trans (block_far _ _ k1))))
  have ht5 : Touch (fun k => k = hb ∨ Sw m (.slice (some ⟨g, 0, none⟩) h.length cap) k) w2 ((((((w2.setCell ⟨g, L * 4, none⟩ (.int .i64 0)).setCell ⟨g, L * 4 + 1, none⟩ (.int .i64 0)).setCell ⟨g, L * 4 + 2, none⟩ (.string { data := #[] })).setCell ⟨g, L * 4 + 3, none⟩ (.int .i64 0))).setCell ⟨hb, 0, none⟩ (.slice (some ⟨g, 0, none⟩) L cap)) :=
    ((((((Touch.refl _ _).setCell (.inl (.inr (.inr rfl))) _).setCell (.inl (.inr (.inr rfl))) _).setCell (.inl (.inr (.inr rfl))) _).setCell (.inl (.inr (.inr rfl))) _).setCell (.inl (.inl rfl)) _)
  generalize (((((w2.setCell ⟨g, L * 4, none⟩ (.int .i64 0)).setCell ⟨g, L * 4 + 1, none⟩ (.int .i64 0)).setCell ⟨g, L * 4 + 2, none⟩ (.string { data := #[] })).setCell ⟨g, L * 4 + 3, none⟩ (.int .i64 0))).setCell ⟨hb, 0, none⟩ (.slice (some ⟨g, 0, none⟩) L cap) = w5 at *
  clear hr3 hr4 e5 a0 a1 a2 a3 p0 p1 f0 rf hrow2
  have hT1 : Touch (Sw m (.slice (some ⟨g, 0, none⟩) h.length cap)) w w2 := (Touch.of_below _ B1.out.1).same V2.out.2
  have zk : ∀ k, w.heap.size ≤ k → k < w1.heap.size → w5.heap[k]? = w1.heap[k]? := fun k k1 k2 =>
    (hk5 k (by omega) (by omega)).trans (V2.out.2.block k k2 (fun e => e.elim (fun e => by omega) (fun e => by have e' : g = k := Option.some.inj e; omega)))
  have zs1 := (Array.getElem?_eq_some_iff.1 B1.out.2.2).1
  have hz5 := (zk w.heap.size (Nat.le_refl _) (by omega)).trans B1.out.2.1
  have ha5 := (zk (w.heap.size + 1) (by omega) zs1).trans B1.out.2.2
  obtain ⟨D, hm2, hpl⟩ := V2.out.1.map
  have hm5 : MapAt w5.drew m (swapL h p L a z).length D := map_of_block hm2 (hk5 m (fun e => g2 e.symm) (fun e => hbm e.symm))
  obtain ⟨ta0, ta1⟩ := X.out.tks a (List.mem_of_getElem? HP.out)
  have hT5 := hm5.tidy int_key
  have hdrop := fun ty => hm5.drop int_key Try.underlying63 (key_at a.ticket (by omega) (by omega)) ty
  obtain ⟨w6, hrun6, hm6, ht6⟩ := hdrop 0
  obtain ⟨p0, p1, _, _⟩ := three_cells hb5
  obtain ⟨a0, a1, a2, a3⟩ := four_cells ha5
  go_region
  have hg6 : w5.drew.grownBy w6 (some m) := ht6.grown
  have b6 : ∀ k, k ≠ m → k < w5.heap.size → w6.heap[k]? = w5.heap[k]? := fun k hne hk => hg6.block k hk (fun e => hne (Option.some.inj e))
  have hs5 : w.heap.size + 2 ≤ w5.heap.size := by
    have := V2.out.2.size
    have := ht5.size
    omega
  have hlh5 : ((h.set p z).take L).length = L := by simp; omega
  have hswl := swap_last HP.out HZ.out hlen1
  have hu := X.out.uniq.perm (swap_perm HP.out HZ.out)
  rw [hswl] at hpl hu
  have hpd := pl_del hpl (by have := hT5; exact this) hu
  have hm6' := map_tight hm6
  rw [hpd.size] at hm6'
  have hperm : (a :: (h.set p z).take L).Perm h := by
    have := swap_perm HP.out HZ.out
    rw [hswl] at this
    exact (List.perm_append_singleton a _).symm.trans this
  have hV6 : Hv w6 hb (.slice (some ⟨g, 0, none⟩) L cap) m ((h.set p z).take L) n := by
    refine ⟨(b6 hb hbm (by omega)).trans hb5, ?_, ⟨_, hm6', hpd⟩, hbm, fun g' hg' => by cases hg'; exact ⟨g1, g2⟩, by omega, fun y hy => X.out.tks y (hperm.mem_iff.1 (List.mem_cons_of_mem _ hy)), ?_⟩
    · rw [hlh5]
      exact row_of_block hr5 (fun g' hg' => by cases hg'; exact b6 g g2 (by omega))
    · exact (List.pairwise_cons.1 (X.out.uniq.perm hperm)).2
  have hz6 := (b6 w.heap.size (by omega) (by omega)).trans hz5
  have ha6 := (b6 (w.heap.size + 1) (by omega) (by omega)).trans ha5
  have hT6 : Touch (fun k => k = hb ∨ Sw m (.slice (some ⟨g, 0, none⟩) h.length cap) k) w w6 := by
    refine ((hT1.mono (fun k hk => .inr hk)).same ht5).same ⟨hg6.os, hg6.tape, hg6.output, hg6.size, fun k hk hn => b6 k (fun e => hn (.inr (.inl e))) hk⟩
  have E6 := Lib.hid (And.intro hV6 (And.intro hz6 (And.intro ha6 (And.intro hT6 (And.intro hperm hg6.size)))))
  clear hV6 hz6 ha6 hT6 hperm hg6 hrun6 hm6 hm6' ht6 hb5 hr5 hk5 ht5 hm5 hT5 hpl hpd hu hswl hz5 ha5 p0 p1 a0 a1 a2 a3 hm2 V2 zk hdrop b6 hT1
  by_cases hpL : p < L
  · have hpL' : (p : Int) < (L : Int) := by omega
    have cs := gsettle_any (p := p) w6 E6.out.1 (by rw [hlh5]; exact hpL) (hole_take (hole_set HH.out p z) L)
    go_wp2_with fail
    (with_reducible refine cs.mono ?_)
    rintro e w7 ⟨rfl, h7, hV7, hp7, hH7, hT7⟩
    have k7 : ∀ k, w.heap.size ≤ k → k < w5.heap.size → w7.heap[k]? = w6.heap[k]? := fun k k1 k2 =>
      hT7.block k (Nat.lt_of_lt_of_le k2 E6.out.2.2.2.2.2) (fun e => e.elim (fun e => by omega) (fun e => by have e' : g = k := Option.some.inj e; omega))
    have hz7 := (k7 w.heap.size (by omega) (by omega)).trans E6.out.2.1
    have ha7 := (k7 (w.heap.size + 1) (by omega) (by omega)).trans E6.out.2.2.1
    clear k7 cs
    obtain ⟨a0, a1, a2, a3⟩ := four_cells ha7
    obtain ⟨z0, z1, z2, z3⟩ := four_cells hz7
    obtain ⟨f0, f1, f2, f3⟩ := four_frozen hz7
    have ne7 : w.heap.size ≠ w.heap.size + 1 := by omega
    have hf := it_sets (.int .i64 a.at_) (.int .i64 a.kind) (.string (bs a.data)) (.int .i64 a.ticket) hz7
    have hT8 : Touch (fun k => k = hb ∨ Sw m (.slice (some ⟨g, 0, none⟩) h.length cap) k) w ((((w7.setCell ⟨w.heap.size, 0, none⟩ (.int .i64 a.at_)).setCell ⟨w.heap.size, 1, none⟩ (.int .i64 a.kind)).setCell ⟨w.heap.size, 2, none⟩ (.string (bs a.data))).setCell ⟨w.heap.size, 3, none⟩ (.int .i64 a.ticket)) :=
      ((((E6.out.2.2.2.1.same (hT7.mono (fun k hk => .inr hk))).setCell (.inr (Nat.le_refl _)) _).setCell (.inr (Nat.le_refl _)) _).setCell (.inr (Nat.le_refl _)) _).setCell (.inr (Nat.le_refl _)) _
    have hV8 : Hv ((((w7.setCell ⟨w.heap.size, 0, none⟩ (.int .i64 a.at_)).setCell ⟨w.heap.size, 1, none⟩ (.int .i64 a.kind)).setCell ⟨w.heap.size, 2, none⟩ (.string (bs a.data))).setCell ⟨w.heap.size, 3, none⟩ (.int .i64 a.ticket)) hb (.slice (some ⟨g, 0, none⟩) L cap) m (h7) n := (hV7).kept (fun k hk => it_far _ _ _ _ (by
      rcases hk with rfl | rfl | hk
      · omega
      · omega
      · have e' : g = k := Option.some.inj hk
        omega))
    have E7 := Lib.hid (And.intro hf (And.intro hV8 hT8))
    have P7 := Lib.hid (And.intro ((hp7.cons a).trans E6.out.2.2.2.2.1) (hH7))
    clear hf hV8 hT8 hz7 ha7
    go_wp2_with fail
    obtain ⟨q0, q1, q2, q3⟩ := four_cells E7.out.1
    exact bodyPost_ret (v := .agg #[.int .i64 a.at_, .int .i64 a.kind, .string (bs a.data), .int .i64 a.ticket]) (by simp [results, Try.results32, go_sem, q0, q1, q2, q3]) rfl ⟨rfl, _, _, E7.out.2.1, rfl, P7.out.1, P7.out.2, E7.out.2.2⟩
  · have hpL' : ¬ (p : Int) < (L : Int) := by omega
    have hz7 := E6.out.2.1
    have ha7 := E6.out.2.2.1
    have hh : HeapF ((h.set p z).take L) := by
      rw [show p = L by omega, take_set_self]
      exact heap_take HH.out L
    have hh' := Lib.hid hh
    clear hh
    obtain ⟨a0, a1, a2, a3⟩ := four_cells ha7
    obtain ⟨z0, z1, z2, z3⟩ := four_cells hz7
    obtain ⟨f0, f1, f2, f3⟩ := four_frozen hz7
    have ne7 : w.heap.size ≠ w.heap.size + 1 := by omega
    have hf := it_sets (.int .i64 a.at_) (.int .i64 a.kind) (.string (bs a.data)) (.int .i64 a.ticket) hz7
    have hT8 : Touch (fun k => k = hb ∨ Sw m (.slice (some ⟨g, 0, none⟩) h.length cap) k) w ((((w6.setCell ⟨w.heap.size, 0, none⟩ (.int .i64 a.at_)).setCell ⟨w.heap.size, 1, none⟩ (.int .i64 a.kind)).setCell ⟨w.heap.size, 2, none⟩ (.string (bs a.data))).setCell ⟨w.heap.size, 3, none⟩ (.int .i64 a.ticket)) :=
      ((((E6.out.2.2.2.1).setCell (.inr (Nat.le_refl _)) _).setCell (.inr (Nat.le_refl _)) _).setCell (.inr (Nat.le_refl _)) _).setCell (.inr (Nat.le_refl _)) _
    have hV8 : Hv ((((w6.setCell ⟨w.heap.size, 0, none⟩ (.int .i64 a.at_)).setCell ⟨w.heap.size, 1, none⟩ (.int .i64 a.kind)).setCell ⟨w.heap.size, 2, none⟩ (.string (bs a.data))).setCell ⟨w.heap.size, 3, none⟩ (.int .i64 a.ticket)) hb (.slice (some ⟨g, 0, none⟩) L cap) m ((h.set p z).take L) n := (E6.out.1).kept (fun k hk => it_far _ _ _ _ (by
      rcases hk with rfl | rfl | hk
      · omega
      · omega
      · have e' : g = k := Option.some.inj hk
        omega))
    have E7 := Lib.hid (And.intro hf (And.intro hV8 hT8))
    have P7 := Lib.hid (And.intro (E6.out.2.2.2.2.1) (hh'.out))
    clear hf hV8 hT8 hz7 ha7
    go_wp2_with fail
    obtain ⟨q0, q1, q2, q3⟩ := four_cells E7.out.1
    exact bodyPost_ret (v := .agg #[.int .i64 a.at_, .int .i64 a.kind, .string (bs a.data), .int .i64 a.ticket]) (by simp [results, Try.results32, go_sem, q0, q1, q2, q3]) rfl ⟨rfl, _, _, E7.out.2.1, rfl, P7.out.1, P7.out.2, E7.out.2.2⟩
end Go.Proofs.Ytcnfidfpgohpoaa.W
