/- Layer 17's own code, walked: a list cloned; one of a list, gone, in place. (Written by wip/genCnI.py.) -/
import Derived.Test.YtefjdmbioclddaaCnH
import Derived.Test.YtefjdmbioclddaaQtB
import Derived.Lib.AppendZeros
import Derived.Lib.SliceRun
import Derived.Laws.AppendOwn
import Derived.Laws.CopyRow
namespace Go.Proofs.Ytefjdmbioclddaa.W
open Go.RowKit Go.Sort
set_option linter.unusedVariables false
set_option linter.unusedSimpArgs false
theorem ndC_length17 (c : Nd) : (ndC c).length = 3 := rfl
theorem ndC_one17 (c : Nd) : ∀ u ∈ ndC c, u.oneCell' = true := by
  intro u hu
  simp only [ndC, List.mem_cons, List.not_mem_nil, or_false] at hu
  rcases hu with rfl | rfl | rfl <;> rfl
theorem ndC_all17 (l : List Nd) : ∀ u ∈ l.flatMap ndC, u.oneCell' = true := by
  intro u hu
  obtain ⟨x, _, hx⟩ := List.mem_flatMap.1 hu
  exact ndC_one17 x u hx
theorem plE_one17 (c : Nat) : ∀ u ∈ plE c, u.oneCell' = true := by
  intro u hu
  simp only [plE, List.mem_cons, List.not_mem_nil, or_false] at hu
  subst hu
  rfl
theorem info_ndC : (Try.prog.info? 40).map (fun i => (i.zero, i.size, i.bytes)) = some (some (.agg #[.int .i64 0, .int .i64 0, .int .i64 0]), 3, 24) := by kernel_rfl
set_option maxRecDepth 100000 in
set_option maxHeartbeats 3200000 in
theorem kclone_any {F : Nat → Prop} (l : List Nd) (hl : l.length ≤ 1000000) (v : Value) (w : World) (hs : SlAt F 3 ndC w v l) (hF : ∀ k, F k → k < w.heap.size) :
    Calls Try.prog 25 #[v] w fun e w' => ∃ v', e = .returned v' ∧ w'.ownsRow w.heap.size 40 3 v' l.length (l.flatMap ndC) ∧ Below w.heap.size w w' := by
  obtain ⟨i0, hi0, hz0, hz1, hz2⟩ := info_parts info_ndC
  have hk := hs.kept (w' := w.alloc (.cells #[] 40)) (fun b hb => Below.heap_alloc _ _ _ (hF b hb))
  rcases hk.src ndC_length17 with ⟨rfl, rfl⟩ | ⟨ad, cap, rfl, hsrc⟩
  · clear hs hk
    have e0 := fun w => Lib.run_eql_slice_nil (P := Try.prog) w 22 40 none 0 0 0 0 Try.underlying22
    go_enter Try.func25, Try.ntmps25
    go_wp2
    go_ret
    exact ⟨_, rfl, World.ownsRow_nil _ _ _ _, Below.refl _ _⟩
  · clear hs hk
    have own0 := ownsRow_fresh w 40 3 w.heap.size (Nat.le_refl _)
    have e0 := fun w => Lib.run_eql_slice_nil (P := Try.prog) w 22 40 (some ad) l.length cap 0 0 Try.underlying22
    go_enter Try.func25, Try.ntmps25
    go_wp2_with (at_builtin; refine wpList_append_own _ rfl _ _ 22 rfl w.heap.size 40 i0 _ 3 24 Try.underlying22 hi0 hz0 hz1 hz2 rfl (by decide) _ _ _ rfl own0 ad l.length _ (l.flatMap ndC) rfl (flat_length 3 ndC ndC_length17 l) hsrc (ndC_all17 l) (by unfold maxLen; omega) (by omega) (by rw [World.size_alloc]; omega) ?_; intro v6 w6 own6 g6 _; rw [Nat.zero_add, List.nil_append] at own6)
    go_ret
    exact ⟨_, rfl, own6, ((Below.refl _ _).alloc (Nat.le_refl _) _).grown g6 (by simp) (fun g hg => (own0.lt g hg).1)⟩
theorem own_C17 {w : World} {base e k g n cap : Nat} {xs : List Value} (h : w.ownsRow base e k (.slice (some ⟨g, 0, none⟩) n cap) n xs) : base ≤ g ∧ ∃ C, w.heap[g]? = some (.cells C e (0, 0)) ∧ n ≤ cap ∧ cap ≤ maxLen ∧ C.size = cap * k ∧ C.toList.take (n * k) = xs := by
  rcases h.2 with ⟨h0, _⟩ | ⟨g', cap', cur, hv, hb, hg, h1, h2, h3, h4⟩
  · cases h0
  · obtain ⟨e1, _, e2⟩ := Value.slice.inj hv
    obtain rfl : g = g' := by simpa using e1
    subst e2
    exact ⟨hb, cur, hg, h1, h2, h3, h4⟩
theorem flat_split {α : Type} (k : Nat) (enc : α → List Value) (hk : ∀ x, (enc x).length = k) (L : List α) (i : Nat) (hi : i ≤ L.length) : (L.flatMap enc).take (i * k) = (L.take i).flatMap enc ∧ (L.flatMap enc).drop (i * k) = (L.drop i).flatMap enc := by
  have e : L.flatMap enc = (L.take i).flatMap enc ++ (L.drop i).flatMap enc := by rw [← List.flatMap_append, List.take_append_drop]
  have hl : ((L.take i).flatMap enc).length = i * k := by rw [flat_length k enc hk, List.length_take, Nat.min_eq_left hi]
  constructor
  · rw [e]; exact List.take_left' hl
  · rw [e]; exact List.drop_left' hl
theorem own_below17 {w w' : World} {B e k n : Nat} {v : Value} {xs : List Value} (h : w.ownsRow B e k v n xs) (hb : Below w.heap.size w w') : w'.ownsRow B e k v n xs :=
  h.kept (row := none) ⟨hb.os, hb.tape, hb.output, hb.size, fun k hk _ => hb.block k hk⟩ (by cases hv : v.ownBlock <;> simp)
theorem touch_setRow (w : World) (g : Nat) (C : Array Value) : Touch (fun b => b = g) w (w.setRow g C) :=
  ⟨rfl, rfl, rfl, by simp, fun k _ hk => setRow_other w g k C hk⟩
/-- 'append(s[:a], s[a+1:]...)'. -/
theorem del_app {α : Type} {P : Program} {k : Nat} {enc : α → List Value} (hk : ∀ x, (enc x).length = k) (h1 : ∀ x, ∀ u ∈ enc x, u.oneCell' = true) {W : World} {B e g n cap : Nat} {L : List α} (own : W.ownsRow B e k (.slice (some ⟨g, 0, none⟩) n cap) n (L.flatMap enc)) (hn : L.length = n) {a : Nat} (ha : a < n)
    (t : TypeId) (ht : P.underlying t = some (.slice e)) (i : TypeInfo) (hi : P.info? e = some i) (hik : i.size = k) (A : Addr) (hA : cap ≠ a + 1 → A = ⟨g, (a + 1) * k, none⟩) (c : Nat) :
    ∃ C1, (∀ ty, (Builtin.append_ #[t, t] ty #[.slice (some ⟨g, 0, none⟩) a cap, .slice (some A) (n - (a + 1)) c]).run P W = .ok (.slice (some ⟨g, 0, none⟩) (a + (n - (a + 1))) cap) (W.setRow g C1)) ∧
      (W.setRow g C1).ownsRow B e k (.slice (some ⟨g, 0, none⟩) (n - 1) cap) (n - 1) ((L.eraseIdx a).flatMap enc) := by
  obtain ⟨hB, C, hg, hnc, hcm, hs, htk⟩ := own_C17 own
  obtain ⟨_, s2⟩ := flat_split k enc hk L (a + 1) (by omega)
  obtain ⟨s1, _⟩ := flat_split k enc hk L a (by omega)
  have hnl : ((L.drop (a + 1)).flatMap enc).length = (n - (a + 1)) * k := by rw [flat_length k enc hk, List.length_drop, hn]
  have hal : ((L.take a).flatMap enc).length = a * k := by rw [flat_length k enc hk, List.length_take, hn, Nat.min_eq_left (by omega)]
  have hsum : a * k + (n - (a + 1)) * k = (n - 1) * k := by rw [← Nat.add_mul]; congr 1; omega
  have hle : (n - 1) * k ≤ cap * k := Nat.mul_le_mul_right k (by omega)
  have hak : a * k ≤ n * k := Nat.mul_le_mul_right k (by omega)
  have hca : C.toList.take (a * k) = (L.take a).flatMap enc := by
    rw [← s1, ← htk, List.take_take, Nat.min_eq_left hak]
  have hsrc : ∀ j u, ((L.drop (a + 1)).flatMap enc)[j]? = some u → W.cell? (A.add j) = some u := by
    intro j u hu
    have hj : j < (n - (a + 1)) * k := by rw [← hnl]; exact (List.getElem?_eq_some_iff.1 hu).1
    by_cases hcap : cap = a + 1
    · exfalso
      have : n - (a + 1) = 0 := by omega
      rw [this, Nat.zero_mul] at hj
      omega
    · rw [hA hcap, Addr.add_lit, cell_of_row W g _ C e (0, 0) hg]
      rw [← s2, List.getElem?_drop, ← htk, List.getElem?_take] at hu
      split at hu
      · rw [Array.getElem?_toList] at hu
        exact hu
      · cases hu
  have hr := fun ty => run_append_room (P := P) W t ty e i ht hi g a cap C hg A (n - (a + 1)) c ((L.drop (a + 1)).flatMap enc) (by rw [hik]; exact hnl) hsrc (fun u hu => by
    obtain ⟨x, _, hx⟩ := List.mem_flatMap.1 hu
    exact h1 x u hx) (by omega) (by rw [hik, hnl, hsum, hs]; exact hle)
  refine ⟨_, hr, ?_⟩
  rw [hik, hca]
  have htl : ((L.take a).flatMap enc ++ (L.drop (a + 1)).flatMap enc).length = (n - 1) * k := by rw [List.length_append, hal, hnl, hsum]
  refine ⟨by rw [flat_length k enc hk, List.length_eraseIdx_of_lt (by omega), hn], .inr ⟨g, cap, _, rfl, hB, setRow_heap W g C _ e (0, 0) hg, by omega, hcm, ?_, ?_⟩⟩
  · rw [List.size_toArray, List.length_append, htl, List.length_drop, Array.length_toList, hnl, hsum, hs]
    omega
  · rw [List.take_left' htl, List.eraseIdx_eq_take_drop_succ, List.flatMap_append]
/-- 'clear(s[m:m+1])'. -/
theorem del_clr {P : Program} {k : Nat} {W : World} {B e g m cap : Nat} {xs : List Value} (own : W.ownsRow B e k (.slice (some ⟨g, 0, none⟩) m cap) m xs) (hm : m + 1 ≤ cap) (t : TypeId) (ht : P.underlying t = some (.slice e)) {z : Value} (hv : ∀ w, (zeroValue e).run P w = .ok z w) (zs : List Value) (hzl : (Builtin.zeroCells z.cells 1).toList = zs) (hzk : zs.length = k) (hz1 : ∀ u ∈ zs, u.oneCell' = true) (c : Nat) :
    ∃ C2, (∀ ty, (Builtin.clear_ #[t] ty #[.slice (some ⟨g, m * k, none⟩) 1 c]).run P W = .ok (.tuple #[]) (W.setRow g C2)) ∧ (W.setRow g C2).ownsRow B e k (.slice (some ⟨g, 0, none⟩) m cap) m xs := by
  obtain ⟨hB, C, hg, hnc, hcm, hs, htk⟩ := own_C17 own
  have hle : m * k + k ≤ cap * k := by
    have := Nat.mul_le_mul_right k hm
    rwa [Nat.succ_mul] at this
  have hst := run_storeCells_at P g (m * k) e zs 0 C W hg (by rw [hzk, hs]; omega) hz1
  refine ⟨(C.toList.take (m * k + 0) ++ zs ++ C.toList.drop (m * k + 0 + zs.length)).toArray, fun ty => ?_, ?_⟩
  · simp [Builtin.clear_, run_underlying ht, hv, hzl, hst]
  · have hl : (C.toList.take (m * k + 0)).length = m * k := by rw [List.length_take, Array.length_toList, hs, Nat.add_zero, Nat.min_eq_left (by omega)]
    refine ⟨own.1, .inr ⟨g, cap, _, rfl, hB, setRow_heap W g C _ e (0, 0) hg, hnc, hcm, ?_, ?_⟩⟩
    · simp only [List.size_toArray, List.length_append, hl, List.length_drop, Array.length_toList, hs, hzk]
      omega
    · rw [List.append_assoc, List.take_left' hl, Nat.add_zero, htk]
set_option maxRecDepth 100000 in
set_option maxHeartbeats 12800000 in
theorem kdeli_any {L : List Nat} {W : World} {B g n cap : Nat} (own : W.ownsRow B 3 1 (.slice (some ⟨g, 0, none⟩) n cap) n (L.flatMap plE)) (hn : L.length = n) (h100 : n ≤ 100) {a : Nat} (ha : a < n) :
    Calls Try.prog 27 #[.slice (some ⟨g, 0, none⟩) n cap, .int .i64 (a : Int), .int .i64 ((a + 1 : Nat) : Int)] W fun e w' => e = .returned (.slice (some ⟨g, 0, none⟩) (n - 1) cap) ∧ w'.ownsRow B 3 1 (.slice (some ⟨g, 0, none⟩) (n - 1) cap) (n - 1) ((L.eraseIdx a).flatMap plE) ∧ Touch (fun b => b = g) W w' := by
  obtain ⟨i0, hi0, hz0, hz1, hz2⟩ := info_parts info_intC
  obtain ⟨hB, C, hg, hnc, hcm, hs, htk⟩ := own_C17 own
  have OO := Lib.hid own
  unfold maxLen at hcm
  clear own hs htk hg
  obtain ⟨j, hj⟩ : ∃ j, j = a + 1 := ⟨_, rfl⟩
  rw [show ((a + 1 : Nat) : Int) = (j : Int) by omega]
  obtain ⟨A, hA, hA2⟩ : ∃ A : Addr, (if cap = j then (some ⟨g, 0, none⟩ : Option Addr) else some ⟨g, j, none⟩) = some A ∧ (cap ≠ a + 1 → A = ⟨g, (a + 1) * 1, none⟩) := by
    by_cases h : cap = j
    · exact ⟨_, by rw [if_pos h], fun g => absurd (h.trans hj) g⟩
    · exact ⟨_, by rw [if_neg h], fun _ => by subst hj; simp⟩
  have HA := Lib.hid (And.intro hj hA2)
  have hac : a ≤ cap := by omega
  have hjc : j ≤ cap := by omega
  have hjn : j ≤ n := by omega
  have han : a ≤ n := by omega
  have haj : a ≤ j := by omega
  have hacI : (a : Int) ≤ cap := by omega
  have hjcI : (j : Int) ≤ cap := by omega
  have hjnI : (j : Int) ≤ n := by omega
  have hne : ((a : Int) == (j : Int)) = false := beq_eq_false_iff_ne.2 (by omega)
  clear hA2 hj
  go_enter Try.func27, Try.ntmps27
  go_upto_region 5 with fail
  refine wp_region_below_tail 6 (by kernel_rfl) (by kernel_rfl) ?_
  simp only [List.take_succ_cons, List.take_zero, List.drop_succ_cons, List.drop_zero]
  repeat (quiet_step (fail))
  refine wpQuiet_nil ?_
  intro w3 hw
  replace hw := again17 hw
  obtain ⟨hj, hA2⟩ := HA.out
  obtain ⟨C1, hap, own1⟩ := del_app (P := Try.prog) (k := 1) (enc := plE) (fun _ => rfl) plE_one17 (own_below17 OO.out hw) hn ha 29 Try.underlying29 i0 hi0 hz1 A hA2 (cap - j)
  have T1 := (Touch.of_below (fun b => b = g) hw).trans (touch_setRow w3 g C1) (fun k hk => .inl hk)
  obtain ⟨m, hm⟩ : ∃ m, a + (n - j) = m := ⟨_, rfl⟩
  rw [← hj, hm] at hap
  obtain rfl : n = m + 1 := by omega
  rw [Nat.add_sub_cancel] at own1
  obtain ⟨C2, hcl, own2⟩ := del_clr (P := Try.prog) own1 hnc 29 Try.underlying29 (z := .int .i64 0) Try.zeroValue3 [.int .i64 0] (by kernel_rfl) rfl (by decide) (cap - m)
  have T2 := T1.trans (touch_setRow (w3.setRow g C1) g C2) (fun k hk => .inl hk)
  have e1 : m + 1 - m = 1 := by omega
  have HN := Lib.hid (And.intro own2 T2)
  have hcm2 : ¬ cap = m := by omega
  have hmc : m ≤ cap := by omega
  have hml : m ≤ m + 1 := by omega
  generalize w3.setRow g C1 = w4 at *
  simp only [Nat.mul_one] at hcl
  clear own1 own2 T1 T2 hj hA2 HA hm OO hw hA hac hjc hjn han haj hacI hjcI hjnI hne
  go_wp2_with (at_builtin; refine Lib.wpList_append_run _ rfl _ _ _ _ rfl _ _ rfl rfl _ _ (hap _) ?_; clear hap)
  go_ret
  rw [Nat.add_sub_cancel]
  exact ⟨rfl, HN.out.1, HN.out.2⟩
set_option maxRecDepth 100000 in
set_option maxHeartbeats 12800000 in
theorem kdeln_any {L : List Nd} {W : World} {B g n cap : Nat} (own : W.ownsRow B 40 3 (.slice (some ⟨g, 0, none⟩) n cap) n (L.flatMap ndC)) (hn : L.length = n) (h100 : n ≤ 100) {a : Nat} (ha : a < n) :
    Calls Try.prog 28 #[.slice (some ⟨g, 0, none⟩) n cap, .int .i64 (a : Int), .int .i64 ((a + 1 : Nat) : Int)] W fun e w' => e = .returned (.slice (some ⟨g, 0, none⟩) (n - 1) cap) ∧ w'.ownsRow B 40 3 (.slice (some ⟨g, 0, none⟩) (n - 1) cap) (n - 1) ((L.eraseIdx a).flatMap ndC) ∧ Touch (fun b => b = g) W w' := by
  obtain ⟨i0, hi0, hz0, hz1, hz2⟩ := info_parts info_ndC
  obtain ⟨hB, C, hg, hnc, hcm, hs, htk⟩ := own_C17 own
  have OO := Lib.hid own
  unfold maxLen at hcm
  clear own hs htk hg
  obtain ⟨j, hj⟩ : ∃ j, j = a + 1 := ⟨_, rfl⟩
  rw [show ((a + 1 : Nat) : Int) = (j : Int) by omega]
  obtain ⟨A, hA, hA2⟩ : ∃ A : Addr, (if cap = j then (some ⟨g, 0, none⟩ : Option Addr) else some ⟨g, j * 3, none⟩) = some A ∧ (cap ≠ a + 1 → A = ⟨g, (a + 1) * 3, none⟩) := by
    by_cases h : cap = j
    · exact ⟨_, by rw [if_pos h], fun g => absurd (h.trans hj) g⟩
    · exact ⟨_, by rw [if_neg h], fun _ => by subst hj; rfl⟩
  have HA := Lib.hid (And.intro hj hA2)
  have hac : a ≤ cap := by omega
  have hjc : j ≤ cap := by omega
  have hjn : j ≤ n := by omega
  have han : a ≤ n := by omega
  have haj : a ≤ j := by omega
  have hacI : (a : Int) ≤ cap := by omega
  have hjcI : (j : Int) ≤ cap := by omega
  have hjnI : (j : Int) ≤ n := by omega
  have hne : ((a : Int) == (j : Int)) = false := beq_eq_false_iff_ne.2 (by omega)
  clear hA2 hj
  go_enter Try.func28, Try.ntmps28
  go_upto_region 5 with fail
  refine wp_region_below_tail 6 (by kernel_rfl) (by kernel_rfl) ?_
  simp only [List.take_succ_cons, List.take_zero, List.drop_succ_cons, List.drop_zero]
  repeat (quiet_step (fail))
  refine wpQuiet_nil ?_
  intro w3 hw
  replace hw := again17 hw
  obtain ⟨hj, hA2⟩ := HA.out
  obtain ⟨C1, hap, own1⟩ := del_app (P := Try.prog) (k := 3) (enc := ndC) (fun _ => rfl) ndC_one17 (own_below17 OO.out hw) hn ha 22 Try.underlying22 i0 hi0 hz1 A hA2 (cap - j)
  have T1 := (Touch.of_below (fun b => b = g) hw).trans (touch_setRow w3 g C1) (fun k hk => .inl hk)
  obtain ⟨m, hm⟩ : ∃ m, a + (n - j) = m := ⟨_, rfl⟩
  rw [← hj, hm] at hap
  obtain rfl : n = m + 1 := by omega
  rw [Nat.add_sub_cancel] at own1
  obtain ⟨C2, hcl, own2⟩ := del_clr (P := Try.prog) own1 hnc 22 Try.underlying22 (z := .agg #[.int .i64 0, .int .i64 0, .int .i64 0]) Try.zeroValue40 [.int .i64 0, .int .i64 0, .int .i64 0] (by kernel_rfl) rfl (by decide) (cap - m)
  have T2 := T1.trans (touch_setRow (w3.setRow g C1) g C2) (fun k hk => .inl hk)
  have e1 : m + 1 - m = 1 := by omega
  have HN := Lib.hid (And.intro own2 T2)
  have hcm2 : ¬ cap = m := by omega
  have hmc : m ≤ cap := by omega
  have hml : m ≤ m + 1 := by omega
  generalize w3.setRow g C1 = w4 at *
  clear own1 own2 T1 T2 hj hA2 HA hm OO hw hA hac hjc hjn han haj hacI hjcI hjnI hne
  go_wp2_with (at_builtin; refine Lib.wpList_append_run _ rfl _ _ _ _ rfl _ _ rfl rfl _ _ (hap _) ?_; clear hap)
  go_ret
  rw [Nat.add_sub_cancel]
  exact ⟨rfl, HN.out.1, HN.out.2⟩
end Go.Proofs.Ytefjdmbioclddaa.W
