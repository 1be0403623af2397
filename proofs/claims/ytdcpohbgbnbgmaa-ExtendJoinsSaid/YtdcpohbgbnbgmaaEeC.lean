/- Layer 6's own code, walked: Walk. -/
import Derived.Test.YtdcpohbgbnbgmaaEeB
namespace Go.Proofs.Ytdcpohbgbnbgmaa.W
open Go.RowKit Go.Shelf
set_option linter.unusedVariables false
set_option linter.unusedSimpArgs false
attribute [local go_sem] Oper.semAt_some
theorem info_Fx : (Try.prog.info? 44).map (fun i => (i.zero, i.size, i.bytes)) = some (some (.agg #[.int .i64 0, .string ByteArray.empty]), 2, 24) := by kernel_rfl
/-- What is left behind those. -/
def itEnd (s : List UInt8) (pre : List (Fd × List UInt8)) : List UInt8 := ((pre.getLast?).map Prod.snd).getD s
theorem itEnd_snoc (s : List UInt8) (pre : List (Fd × List UInt8)) (x : Fd × List UInt8) : itEnd s (pre ++ [x]) = x.2 := by simp [itEnd]
theorem block_own (B : Nat) (cs : Array Value) (t : TypeId) (fr : Nat × Nat) : Own (fun (_ : Unit) W => W.heap[B]? = some (.cells cs t fr)) := by
  intro s X Y row h hg hrow
  refine (hg.block B (Array.getElem?_eq_some_iff.1 h).1 (fun e' => ?_)).trans h
  obtain ⟨o, ho, hc⟩ := hrow B e'.symm
  rw [h] at ho
  cases ho
  cases hc
theorem itDone_yes {s : List UInt8} {xs : List (Fd × List UInt8)} (h : ItDone s xs) (hm : macN (itEnd s xs).length = true) : walkL s = some (xs.map Prod.fst, itEnd s xs) := by
  obtain ⟨r, ⟨h1, h2, h3⟩, hd⟩ := h
  have e : itEnd s xs = r := h3.symm
  rw [e] at hm ⊢
  have h24 : r.length ≤ 24 := by
    generalize r.length = n at *
    unfold macN at hm
    simp at hm
    omega
  rw [h1, walkL_step, if_pos h24, if_pos hm]
  simp
theorem itDone_no {s : List UInt8} {xs : List (Fd × List UInt8)} (h : ItDone s xs) (hm : macN (itEnd s xs).length = false) : walkL s = none := by
  obtain ⟨r, ⟨h1, h2, h3⟩, hd⟩ := h
  have e : itEnd s xs = r := h3.symm
  rw [e] at hm
  rw [h1, walkL_step]
  by_cases h24 : r.length ≤ 24
  · rw [if_pos h24, hm]
    rfl
  · rw [if_neg h24]
    rcases hd with hd | hd
    · exact absurd hd h24
    · rw [if_pos hd]
      rfl
set_option maxRecDepth 100000 in
set_option maxHeartbeats 6400000 in
theorem ewalk_any (l : List UInt8) (hl : l.length ≤ 1000000) (w : World) :
    Calls Try.prog 9 #[.string (bs l)] w fun e w' => ∃ v, e = .returned (.tuple #[v, .string (bs (wkM l)), .int .i64 (wkE l)]) ∧ w'.ownsRow w.heap.size 44 2 v (wkL l).length (fdCells (wkL l)) ∧ Below w.heap.size w w' := by
  obtain ⟨i0, hi, hz0, hz1, hz2⟩ := info_parts info_Fx
  have c0 := fieldsOf_any l
  refine (callsIn_wide (n := 9)).1 ?_
  refine callsIn_of_wp_marks Try.func9 rfl trivial ?_ rfl
  simp only [Try.ntmps9, List.size_toArray, List.length_cons, List.length_nil, Nat.reduceAdd, Nat.reduceSub, Array.replicate_succ, Array.replicate_zero, List.push_toArray, List.append_toArray, List.nil_append, List.cons_append]
  gi_wp2_with fail
  refine ⟨trivial, (callsIn_wide.2 (c0 _)).mono ?_⟩
  rintro e w' ⟨rfl, rfl⟩
  gi_wp2_with fail
  have b0 := Boxed.new w 23 (.slice none 0 0)
  have b1 := Boxed.new (w.alloc (.cells #[.slice none 0 0] 23)) 9 (.string (bs l))
  have bN := Boxed.new ((w.alloc (.cells #[.slice none 0 0] 23)).alloc (.cells #[.string (bs l)] 9)) 9 (.string (bs l))
  simp only [World.size_alloc] at b1 bN
  have hB0 : Below w.heap.size w (((w.alloc (.cells #[.slice none 0 0] 23)).alloc (.cells #[.string (bs l)] 9)).alloc (.cells #[.string (bs l)] 9)) := (((Below.refl _ w).alloc (Nat.le_refl _) _).alloc (by simp) _).alloc (by simp <;> omega) _
  obtain ⟨w3, hw3⟩ : ∃ w3, ((w.alloc (.cells #[.slice none 0 0] 23)).alloc (.cells #[.string (bs l)] 9)).alloc (.cells #[.string (bs l)] 9) = w3 := ⟨_, rfl⟩
  have b0' := (b0.alloc (.cells #[.string (bs l)] 9)).alloc (.cells #[.string (bs l)] 9)
  have b1' := b1.alloc (.cells #[.string (bs l)] 9)
  have hsz : w3.heap.size = w.heap.size + 1 + 1 + 1 := by rw [← hw3]; simp
  rw [hw3] at b0' b1' bN hB0 ⊢
  have HL := Lib.hid hl
  refine wpIn_rangeFunc_ownH rfl (by omega) (gf := 34) (lb := #[.pointer (some ⟨w.heap.size + 1 + 1, 0, none⟩)]) rfl trivial (enters_of Try.func34 (by kernel_rfl) rfl)
    (fields_stops 8 (by omega) l hl (w.heap.size + 1 + 1) w3 (by omega) bN.cell) (fun _ _ => trivial) (fun _ _ _ _ _ _ _ _ => trivial) (Below.refl _ _) (fun _ => rfl)
    (fun pre W => ((∃ v, Boxed W w.heap.size 23 v ∧ W.ownsRow w.heap.size 44 2 v pre.length (fdCells (pre.map Prod.fst)) ∧ True) ∧ Boxed W (w.heap.size + 1) 9 (.string (bs (itEnd l pre)))) ∧ (Below w.heap.size w W ∧ w3.heap.size ≤ W.heap.size))
    (fun _ _ _ => False)
    (OwnFrom.and (Own.from (fun s X Y row h hg hr => ⟨holdsRow_own w.heap.size w.heap.size 23 44 2 (fun pre : List (Fd × List UInt8) => pre.length) (fun pre => fdCells (pre.map Prod.fst)) (fun _ _ => True) s X Y row h.1 hg hr, boxed_own (w.heap.size + 1) 9 (fun pre => .string (bs (itEnd l pre))) s X Y row h.2 hg hr⟩) _) (OwnFrom.and (ownFrom_below (Nat.le_refl _) (by omega)) (fun s X Y row h hg _ => Nat.le_trans h hg.size)))
    (fun _ _ _ _ _ hs _ _ => hs)
    ⟨⟨⟨_, b0', World.ownsRow_nil _ _ _ _, trivial⟩, b1'⟩, hB0, Nat.le_refl _⟩
    (fun x a' W => ∃ Bx, w3.heap.size ≤ Bx ∧ W.heap[Bx]? = some (.cells #[.int .i64 x.1.ty, .string (bs x.1.body)] 44 (0, 0)) ∧
      a' = { tmps := #[.string (bs l), undef, .slice none 0 0, .string { data := #[] }, .int .i64 0, .pointer (some ⟨w.heap.size, 0, none⟩), .pointer (some ⟨w.heap.size + 1, 0, none⟩), .pointer (some ⟨Bx, 0, none⟩), .string (bs x.2), .string (bs l), .string (bs l), .func (.func 34) #[] #[.pointer (some ⟨w.heap.size + 1 + 1, 0, none⟩)], .agg #[.int .i64 x.1.ty, .string (bs x.1.body)], .string (bs x.2), undef, undef, undef, undef, undef, undef, undef, undef, undef, undef], defers := [] })
    (fun x a' s X Y row h hg hr => by
      obtain ⟨Bx, h1, h2, h3⟩ := h
      exact ⟨Bx, h1, (block_own Bx _ _ _).from _ () X Y row h2 hg hr, h3⟩)
    ?assign ?body ?done ?stop
  case assign =>
    rintro lp pre x W K ⟨⟨⟨v, hv, hrow, _⟩, hm⟩, hB, hz⟩ hK
    have hsB := hB.size
    gi_wp2_with fail
    exact hK _ _ ((KeepsOthers.alloc _ _).from _) trivial ⟨⟨⟨v, hv.alloc _, hrow.alloc _, trivial⟩, hm.alloc _⟩, hB.alloc hsB _, by rw [World.size_alloc]; omega⟩ ⟨W.heap.size, hz, heap_alloc_new _ _, rfl⟩
  case body =>
    rintro lp pre x a' W hlp ⟨rc, hrc⟩ ⟨⟨⟨v, hv, hrow, _⟩, hm⟩, hB, hz⟩ ⟨Bx, hBx, hblk, rfl⟩ hlt
    have hc := hv.cell
    have hcx0 : W.cell? ⟨Bx, 0, none⟩ = some (.int .i64 x.1.ty) := by simp [World.cell?, hblk]
    have hcx1 : W.cell? ⟨Bx, 1, none⟩ = some (.string (bs x.1.body)) := by simp [World.cell?, hblk]
    have hl1 := HL.out
    gi_wp2_with (gi_at_builtin; refine wpListIn_append_own _ rfl _ _ 23 rfl w.heap.size 44 i0 (.agg #[.int .i64 0, .string ByteArray.empty]) 2 24 Try.underlying23 hi hz0 hz1 hz2 rfl (by decide) _ _ _ rfl (hrow.alloc _) ⟨W.heap.size, 0, none⟩ 1 1 [.int .i64 x.1.ty, .string (bs x.1.body)] rfl rfl (new_cells _ _ _) (by simp [Value.oneCell']) (by unfold maxLen; omega) (by omega) (by have := hB.size; simp; omega) ?_; intro v' w1 hown' hgrow _; obtain ⟨g', cap', rfl⟩ := ownsRow_succ hown'; obtain ⟨hv1, hv2, hr2, hk2, hb2⟩ := hv.appended (by decide) hrow hB.size (Nat.le_refl _) hown' hgrow; have hm1 := (hm.alloc _).kept hgrow (hm.not_row (by decide) hrow); have hm2 := hm1.other (show w.heap.size + 1 ≠ w.heap.size by omega) (.slice (some ⟨g', 0, none⟩) (pre.length + 1) cap'); have hc1 := hv1.cell; have hf1 := hv1.frozen; have hcm := hm2.cell; have hfm := hm2.frozen)
    refine ⟨(hk2.trans (KeepsOthers.setCell _ _ _)).from _, trivial, ⟨⟨_, hv2.other (show w.heap.size ≠ w.heap.size + 1 by omega) _, ?_, trivial⟩, ?_⟩, hB.trans (hb2.setCell (p := ⟨w.heap.size + 1, 0, none⟩) (by simp) _), ?_⟩
    · have hr3 := hr2.kept (grownBy_setCell' _ (w.heap.size + 1) (.string (bs x.2))) (.inr (hm2.not_row (by decide) hr2).symm)
      rw [List.map_append, List.map_cons, List.map_nil, ← fdCells_snoc, List.length_append]
      exact hr3
    · rw [itEnd_snoc]
      exact hm2.set _
    · have := hb2.size
      simp [World.setCell] at this ⊢
      omega
  case done =>
    rintro D xs W hD hS ⟨⟨⟨v, hv, hrow, _⟩, hm⟩, hB, hz⟩ hK
    have hc := hv.cell
    have hcm := hm.cell
    have hen : (itEnd l xs).length ≤ 1000000 := by
      obtain ⟨r, ⟨_, h2, h3⟩, _⟩ := hS
      have e : itEnd l xs = r := h3.symm
      have := HL.out
      rw [e]
      omega
    have c := isMAC_any (itEnd l xs) hen
    by_cases hmm : macN (itEnd l xs).length = true
    · have hws := itDone_yes hS hmm
      obtain ⟨e1, e2, e3⟩ := wk_yes hws
      have E1 := Lib.hid e1
      have E2 := Lib.hid e2
      have E3 := Lib.hid e3
      rw [hmm] at c
      clear e1 e2 e3 hws hmm
      gi_wp2_with fail
      refine ⟨trivial, (callsIn_wide.2 (c _)).mono ?_⟩
      rintro e w' ⟨rfl, rfl⟩
      gi_wp2_with fail
      rw [wpIn_wide]
      go_quiet (fail)
      gi_wp2_with fail
      have hrow' : (W.drewN nq).ownsRow w.heap.size 44 2 v xs.length (fdCells (xs.map Prod.fst)) := hrow
      have hK' : (W.drewN nq).heap[D]? = some (.deferred (some [])) := hK
      have hB' : Below w.heap.size w (W.drewN nq) := below_drewN hB nq
      refine ⟨by simp, .inl ⟨_, _, rfl, run_takeDeferred hK', ?_⟩⟩
      exact ⟨_, by simp [results, Try.results9, go_sem]; rfl, _, by rw [E2.out, E3.out], by rw [E1.out, List.length_map]; exact ownsRow_putObj hrow' _ hK' rfl, hB'.trans (belowK_b (w := w) (Nat.le_refl _) (W.drewN nq) D _ _ (by omega) hK' rfl rfl)⟩
    · have hmf : macN (itEnd l xs).length = false := by simpa using hmm
      have hws := itDone_no hS hmf
      obtain ⟨e1, e2, e3⟩ := wk_no hws
      have E1 := Lib.hid e1
      have E2 := Lib.hid e2
      have E3 := Lib.hid e3
      rw [hmf] at c
      clear e1 e2 e3 hws hmm hmf
      gi_wp2_with fail
      refine ⟨trivial, (callsIn_wide.2 (c _)).mono ?_⟩
      rintro e w' ⟨rfl, rfl⟩
      gi_wp2_with fail
      refine ⟨by simp, .inl ⟨_, _, rfl, run_takeDeferred hK, ?_⟩⟩
      exact ⟨_, by simp [results, Try.results9, go_sem]; rfl, _, by rw [E2.out, E3.out]; rfl, by rw [E1.out]; exact World.ownsRow_nil _ _ _ _, hB.trans (belowK_b (w := w) (Nat.le_refl _) W D _ _ (by omega) hK rfl rfl)⟩
  case stop =>
    rintro D c pre W _ _ h _
    exact h.elim
end Go.Proofs.Ytdcpohbgbnbgmaa.W
