/- Layer 18's own code, walked: a mean of what a closure tells, by weights. -/
import Derived.Test.YtekdablolacgfaaCqD
namespace Go.Proofs.Ytekdablolacgfaa.W
open Go.RowKit Go.Sort
set_option linter.unusedVariables false
set_option linter.unusedSimpArgs false
attribute [local go_sem] Oper.semAt_some
def accO (pf : Int → Int) (L : List (Int × Int)) : Int := L.foldl (fun a x => addI a (mulI (pf x.1) (wtI x.2))) 0
def accW (L : List (Int × Int)) : Int := L.foldl (fun a x => addI a (wtI x.2)) 0
theorem accO_snoc (pf : Int → Int) (L : List (Int × Int)) (x : Int × Int) : accO pf (L ++ [x]) = addI (accO pf L) (mulI (pf x.1) (wtI x.2)) := by simp [accO]
theorem accW_snoc (L : List (Int × Int)) (x : Int × Int) : accW (L ++ [x]) = addI (accW L) (wtI x.2) := by simp [accW]
theorem accO_range (pf : Int → Int) (L : List (Int × Int)) : -9223372036854775808 ≤ accO pf L ∧ accO pf L ≤ 9223372036854775807 := by
  rcases List.eq_nil_or_concat L with rfl | ⟨M, x, rfl⟩
  · simp [accO]
  · rw [List.concat_eq_append, accO_snoc]
    exact addI18 _ _
theorem accW_range (L : List (Int × Int)) : -9223372036854775808 ≤ accW L ∧ accW L ≤ 9223372036854775807 := by
  rcases List.eq_nil_or_concat L with rfl | ⟨M, x, rfl⟩
  · exact ⟨by decide, by decide⟩
  · rw [List.concat_eq_append, accW_snoc]
    exact addI18 _ _
theorem own_blk18 {β : Type} (B : Nat) (cs : β → Array Value) (t : TypeId) (fr : Nat × Nat) : Own (fun (s : β) W => W.heap[B]? = some (.cells (cs s) t fr)) := by
  intro s X Y row h hg hrow
  refine (hg.block B (Array.getElem?_eq_some_iff.1 h).1 (fun e' => ?_)).trans h
  obtain ⟨o, ho, hc⟩ := hrow B e'.symm
  rw [h] at ho
  cases ho
  cases hc
theorem own_lt18 {β : Type} (n : Nat) : Own (fun (_ : β) W => n ≤ W.heap.size) := fun _ _ _ _ h hg _ => Nat.le_trans h hg.size
theorem stays_put {K : Nat → Prop} {w : World} (hK : ∀ b, K b → b < w.heap.size) (W : World) (l : Nat) (o o' : Obj) (hl : w.heap.size ≤ l) (_ : W.heap[l]? = some o) (_ : o.isCells = false) : Stays K W (W.putObj l o') :=
  fun b hb => World.putObj_heap_other (by have := hK b hb; omega)
theorem put_other18 {W : World} {D B : Nat} {o o' : Obj} {cs : Array Value} {t : TypeId} {fr : Nat × Nat} (hK : W.heap[D]? = some o) (ho : o.isCells = false) (h : W.heap[B]? = some (.cells cs t fr)) : (W.putObj D o').heap[B]? = some (.cells cs t fr) := by
  refine (World.putObj_heap_other (fun e => ?_)).trans h
  subst e
  rw [hK] at h
  cases h
  cases ho
/-- The caller's own blocks but those that gather. -/
def KpA (n N : Nat) (b : Nat) : Prop := b < N ∧ b ≠ n + 1 ∧ b ≠ n + 1 + 1
set_option maxRecDepth 100000 in
set_option maxHeartbeats 12800000 in
theorem cweigh_any (o d : List Int) (ho : o.length ≤ 60) (hd : d.length ≤ 60) (tx : ∀ x ∈ o, -9223372036854775808 ≤ x ∧ x ≤ 9223372036854775807) (td : ∀ x ∈ d, -9223372036854775808 ≤ x ∧ x ≤ 9223372036854775807)
    (g : Nat) (lb : Array Value) (eg : ∀ args w, (callFunc g args).run Try.prog w = .ok (.enter g args) w) (pf : Int → Int) (hpf : ∀ x, -9223372036854775808 ≤ x ∧ x ≤ 9223372036854775807 → -9223372036854775808 ≤ pf x ∧ pf x ≤ 9223372036854775807)
    {F G : Nat → Prop} {vo vd : Value} (w : World) (so : SlAt F 1 (oneE .i64) w vo o) (sd : SlAt G 1 (oneE .i64) w vd d) (hF : ∀ b, F b → b < w.heap.size) (hG : ∀ b, G b → b < w.heap.size)
    (hg : ∀ W : World, Below w.heap.size w W → ∀ x : Int, -9223372036854775808 ≤ x ∧ x ≤ 9223372036854775807 → Calls Try.prog g (#[.int .i64 x] ++ lb) W fun e W' => e = .returned (.int .i64 (pf x)) ∧ Below W.heap.size W W') :
    Calls Try.prog 19 #[vo, vd, .func (.func g) #[] lb] w fun e w' => e = .returned (.int .i64 (divI (accO pf (pairs18 o d (lenC o d))) (accW (pairs18 o d (lenC o d))))) ∧ Below w.heap.size w w' := by
  obtain ⟨xo, co, rfl⟩ := so.slice
  obtain ⟨xd, cd, rfl⟩ := sd.slice
  refine (callsIn_wide (n := 0)).1 ?_
  refine callsIn_of_wp_marks Try.func19 rfl trivial ?_ rfl
  simp only [Try.ntmps19, List.size_toArray, List.length_cons, List.length_nil, Nat.reduceAdd, Nat.reduceSub, Array.replicate_succ, Array.replicate_zero, List.push_toArray, List.append_toArray, List.nil_append, List.cons_append]
  obtain ⟨w3, hw3⟩ : ∃ W, (((w.alloc (.cells #[.func (.func g) #[] lb] 28)).alloc (.cells #[.int .i64 0] 2)).alloc (.cells #[.int .i64 0] 2)) = W := ⟨_, rfl⟩
  obtain ⟨q0, q1, q2, B3, z3⟩ := three_new18 _ _ _ _ _ _ _ _ hw3
  obtain ⟨c1, f1⟩ := one_at18 q1
  obtain ⟨c2, f2⟩ := one_at18 q2
  have HW := Lib.hid hg
  have SO := Lib.hid (And.intro so sd)
  have HF := Lib.hid (And.intro hF hG)
  have HT := Lib.hid (And.intro tx td)
  clear so sd hF hG hg tx td
  gi_wp2_with (rw [hw3])
  have r0 := (block_far (w := w3.setCell ⟨w.heap.size + 1, 0, none⟩ (.int .i64 0)) (b := w.heap.size + 1 + 1) 0 (.int .i64 0) (show w.heap.size ≠ w.heap.size + 1 + 1 by omega)).trans ((block_far (w := w3) (b := w.heap.size + 1) 0 (.int .i64 0) (show w.heap.size ≠ w.heap.size + 1 by omega)).trans q0)
  have r1 := (block_far (w := w3.setCell ⟨w.heap.size + 1, 0, none⟩ (.int .i64 0)) (b := w.heap.size + 1 + 1) 0 (.int .i64 0) (show w.heap.size + 1 ≠ w.heap.size + 1 + 1 by omega)).trans (block_set 0 (.int .i64 0) q1)
  have r2 := block_set 0 (.int .i64 0) ((block_far (w := w3) (b := w.heap.size + 1) 0 (.int .i64 0) (show w.heap.size + 1 + 1 ≠ w.heap.size + 1 by omega)).trans q2)
  have B5 := (B3.setCell (p := ⟨w.heap.size + 1, 0, none⟩) (by show w.heap.size ≤ w.heap.size + 1; omega) (.int .i64 0)).setCell (p := ⟨w.heap.size + 1 + 1, 0, none⟩) (by show w.heap.size ≤ w.heap.size + 1 + 1; omega) (.int .i64 0)
  have z5 : ((w3.setCell ⟨w.heap.size + 1, 0, none⟩ (.int .i64 0)).setCell ⟨w.heap.size + 1 + 1, 0, none⟩ (.int .i64 0)).heap.size = w.heap.size + 3 := by rw [set_size, set_size]; exact z3
  generalize (w3.setCell ⟨w.heap.size + 1, 0, none⟩ (.int .i64 0)).setCell ⟨w.heap.size + 1 + 1, 0, none⟩ (.int .i64 0) = w5 at *
  clear q0 q1 q2 B3 z3 c1 f1 c2 f2 hw3
  simp only [List.setIfInBounds_toArray, List.set_cons_zero] at r1 r2
  refine ⟨trivial, rfl, (callsIn_wide.2 (cboth_any _ _ _ _ _ _ _)).mono ?_⟩
  rintro e w6' ⟨rfl, rfl⟩
  have s3 := heap_first w5 (.cells #[.slice xo o.length co] 22) (.cells #[.slice xd d.length cd] 22)
  have s4 := heap_second w5 (.cells #[.slice xo o.length co] 22) (.cells #[.slice xd d.length cd] 22)
  have G6 := ((Below.refl w5.heap.size w5).alloc (Nat.le_refl _) (.cells #[.slice xo o.length co] 22)).alloc (by rw [World.size_alloc]; omega) (.cells #[.slice xd d.length cd] 22)
  have z6 : ((w5.alloc (.cells #[.slice xo o.length co] 22)).alloc (.cells #[.slice xd d.length cd] 22)).heap.size = w.heap.size + 5 := by rw [World.size_alloc, World.size_alloc, z5]
  generalize (w5.alloc (.cells #[.slice xo o.length co] 22)).alloc (.cells #[.slice xd d.length cd] 22) = w6 at *
  rw [z5] at s3 s4 ⊢
  have B6 := B5.trans (G6.mono (by omega))
  have t0 := (G6.block w.heap.size (by omega)).trans r0
  have t1 := (G6.block (w.heap.size + 1) (by omega)).trans r1
  have t2 := (G6.block (w.heap.size + 1 + 1) (by omega)).trans r2
  have so6 : SlAt (KpA w.heap.size w6.heap.size) 1 (oneE .i64) w6 (.slice xo o.length co) o := (SO.out.1.kept fun b hb => B6.block b (HF.out.1 b hb)).mono fun b hb => ⟨by have := HF.out.1 b hb; omega, by have := HF.out.1 b hb; omega, by have := HF.out.1 b hb; omega⟩
  have sd6 : SlAt (KpA w.heap.size w6.heap.size) 1 (oneE .i64) w6 (.slice xd d.length cd) d := (SO.out.2.kept fun b hb => B6.block b (HF.out.2 b hb)).mono fun b hb => ⟨by have := HF.out.2 b hb; omega, by have := HF.out.2 b hb; omega, by have := HF.out.2 b hb; omega⟩
  have hy := both_yields o d ho hd HT.out.1 HT.out.2 (KpA w.heap.size w6.heap.size) (w.heap.size + 3) (w.heap.size + 3 + 1) _ _ w6 (fun b h => h.1) ⟨by omega, by omega, by omega⟩ ⟨by omega, by omega, by omega⟩ s3 s4 so6 sd6
  have HY := Lib.hid hy
  have HI := Lib.hid (And.intro t1 (And.intro t2 (And.intro t0 B6)))
  clear r0 r1 r2 B5 s3 s4 G6 t0 t1 t2 so6 sd6 hy B6
  gi_wp2_with fail
  refine range_yields (gf := 60) (lb := #[.pointer (some ⟨w.heap.size + 3, 0, none⟩), .pointer (some ⟨w.heap.size + 3 + 1, 0, none⟩)]) rfl enters_both1 HY.out (fun h k => h.trans k) (stays_put fun b h => h.1) (Below.refl _ _) (fun _ => rfl)
    (fun pre X => (X.heap[w.heap.size + 1]? = some (.cells #[.int .i64 (accO pf (prL pre))] 2 (0, 0)) ∧ X.heap[w.heap.size + 1 + 1]? = some (.cells #[.int .i64 (accW (prL pre))] 2 (0, 0)) ∧ X.heap[w.heap.size]? = some (.cells #[.func (.func g) #[] lb] 28 (0, 0))) ∧ Below w.heap.size w X ∧ w6.heap.size ≤ X.heap.size)
    (fun c pre X => False)
    (OwnFrom.and (OwnFrom.and ((own_blk18 _ (fun pre : List Pr18 => #[.int .i64 (accO pf (prL pre))]) _ _).from _) (OwnFrom.and ((own_blk18 _ (fun pre : List Pr18 => #[.int .i64 (accW (prL pre))]) _ _).from _) ((own_blk18 _ _ _ _).from _))) (OwnFrom.and (ownFrom_below (Nat.le_refl _) (by omega)) ((own_lt18 _).from _)))
    (fun c s X Y row h hg hr => h)
    ⟨⟨HI.out.1, HI.out.2.1, HI.out.2.2.1⟩, HI.out.2.2.2, Nat.le_refl _⟩
    (fun x a' X => a' = { tmps := #[.slice xo o.length co, .slice xd d.length cd, .func (.func g) #[] lb, undef, undef, .pointer (some ⟨w.heap.size, 0, none⟩), .int .i64 0, .pointer (some ⟨w.heap.size + 1, 0, none⟩), .pointer (some ⟨w.heap.size + 1 + 1, 0, none⟩), .int .i64 x.1.1, .int .i64 x.1.2, undef, .slice xo o.length co, .slice xd d.length cd, .func (.func 60) #[] #[.pointer (some ⟨w.heap.size + 3, 0, none⟩), .pointer (some ⟨w.heap.size + 3 + 1, 0, none⟩)], .int .i64 x.1.1, .int .i64 x.1.2, undef, undef, undef, undef, undef, undef, undef, undef, undef, undef, undef, undef, undef, undef, undef], defers := [] })
    (fun x a' s X Y row h hg hr => h)
    ?assign ?body ?done ?stop
  case assign =>
    rintro lp pre x X K ⟨⟨h1, h2, h0⟩, hB, hz⟩ hK
    have HK := Lib.hid hK
    have HX := Lib.hid (And.intro (And.intro h1 (And.intro h2 h0)) (And.intro hB hz))
    clear h1 h2 h0 hB hz hK
    unfold prE
    gi_wp2_with fail
    exact HK.out _ _ (Fixed.refl _ _) (Stays.refl _ _) HX.out rfl
  case body =>
    rintro lp pre x a' X hlp ⟨⟨h1, h2, h0⟩, hB, hz⟩ rfl hlt
    have cw := cwt_any x.1.2 x.2.2
    have rw' := wt_range x.1.2 x.2.2.2
    have r1 := x.2.1
    have hsn1 := accO_snoc pf (prL pre) x.1
    have hsn2 := accW_snoc (prL pre) x.1
    rw [← pr_snoc] at hsn1 hsn2
    have ra := accO_range pf (prL pre)
    have rb := accW_range (prL pre)
    have rp := hpf x.1.1 x.2.1
    generalize accO pf (prL pre) = va at *
    generalize accW (prL pre) = vb at *
    have H := Lib.hid (And.intro h1 (And.intro h2 (And.intro h0 (And.intro hB hz))))
    have SN := Lib.hid (And.intro hsn1 hsn2)
    clear h1 h2 h0 hB hz hsn1 hsn2
    gi_wp2_with fail
    refine ⟨trivial, rfl, (CallsIn.inRound lp (callsIn_wide.2 (cw _))).mono ?_⟩
    rintro e W5 ⟨rfl, b5⟩
    obtain ⟨h1, h2, h0, hB, hz⟩ := H.out
    have z5' := b5.size
    have k1 := (b5.block _ (by omega)).trans h1
    have k2 := (b5.block _ (by omega)).trans h2
    have k0 := (b5.block _ (by omega)).trans h0
    have hB5 := hB.trans (b5.mono (by omega))
    generalize wtI x.1.2 = wx at *
    have cM := fmul_any (pf x.1.1) wx rp.1 rp.2 (by omega) (by omega)
    have rm := mulI18 (pf x.1.1) wx
    generalize mulI (pf x.1.1) wx = mx at *
    have cA := add_any va mx ra.1 ra.2 rm.1 rm.2
    have cB := add_any vb wx rb.1 rb.2 (by omega) (by omega)
    have d1 := fun dd os => Calls.regrown_of (HW.out (grow (redrawn W5 dd) os) (hB5.trans ((below_regrown W5 dd os).mono (by omega))) x.1.1 r1)
    have d2 := fun dd os => Calls.regrown_of (cM (grow (redrawn W5 dd) os))
    have d3 := fun dd os => Calls.regrown_of ((cA (grow (redrawn W5 dd) os)).mono fun e w' h => And.intro h.1 (h.2 ▸ Below.refl _ _))
    have e1 := cell_regrown (one_at18 k1).1
    have e0 := cell_regrown (one_at18 k0).1
    have H5 := Lib.hid (And.intro k1 (And.intro k2 (And.intro k0 (And.intro hB5 (And.intro b5 hz)))))
    clear h1 h2 h0 hB hz k1 k2 k0 hB5 cw cM cA H b5
    gi_wp2_with fail
    refine in_region_below_tail_round 7 (by kernel_rfl) (by kernel_rfl) (by kernel_rfl) ?_
    simp only [List.take_succ_cons, List.take_zero, List.drop_succ_cons, List.drop_zero]
    repeat (quiet_step (first | (with_reducible exact d1 _ _) | (with_reducible exact d2 _ _) | (with_reducible exact d3 _ _)))
    refine wpQuiet_nil ?_
    intro W6 hw
    replace hw := again18 hw
    obtain ⟨k1, k2, k0, hB5, b5, hz⟩ := H5.out
    have z6' := hw.size
    have m1 := (hw.block _ (by omega)).trans k1
    have m2 := (hw.block _ (by omega)).trans k2
    have m0 := (hw.block _ (by omega)).trans k0
    have b6 := b5.trans (hw.mono z5')
    have hB6 := hB5.trans (hw.mono (by omega))
    obtain ⟨c1, f1⟩ := one_at18 m1
    obtain ⟨c2, f2⟩ := one_at18 m2
    have H6 := Lib.hid (And.intro m1 (And.intro m2 (And.intro m0 (And.intro hB6 (And.intro b6 hz)))))
    obtain ⟨ya, hya⟩ : ∃ y, addI va mx = y := ⟨_, rfl⟩
    rw [hya] at SN ⊢
    clear k1 k2 k0 hB5 b5 hz hw m1 m2 m0 b6 hB6 d1 d2 d3 e1 e0 H5 hya
    gi_wp2_with fail
    refine ⟨trivial, rfl, (CallsIn.inRound lp (callsIn_wide.2 (cB _))).mono ?_⟩
    rintro e W7 ⟨rfl, rfl⟩
    obtain ⟨m1, m2, m0, hB6, b6, hz⟩ := H6.out
    have g1 := block_set 0 (.int .i64 ya) m1
    have g2 := (block_far (w := W6) (b := w.heap.size + 1) 0 (.int .i64 ya) (show w.heap.size + 1 + 1 ≠ w.heap.size + 1 by omega)).trans m2
    have g0 := (block_far (w := W6) (b := w.heap.size + 1) 0 (.int .i64 ya) (show w.heap.size ≠ w.heap.size + 1 by omega)).trans m0
    simp only [List.setIfInBounds_toArray, List.set_cons_zero] at g1
    have S7 : Stays (KpA w.heap.size w6.heap.size) X (W6.setCell ⟨w.heap.size + 1, 0, none⟩ (.int .i64 ya)) := (Stays.of_below b6 (fun b hb => by have := hb.1; omega)).trans (Stays.setCell W6 _ _ (fun h => h.2.1 rfl))
    have F7 : Fixed w6.heap.size X (W6.setCell ⟨w.heap.size + 1, 0, none⟩ (.int .i64 ya)) := (Fixed.of_below b6 (Nat.le_refl _)).trans (Fixed.setCell W6 (a := ⟨w.heap.size + 1, 0, none⟩) (by show w.heap.size + 1 < w6.heap.size; omega) (.int .i64 ya))
    have B7 := hB6.setCell (p := ⟨w.heap.size + 1, 0, none⟩) (by show w.heap.size ≤ w.heap.size + 1; omega) (.int .i64 ya)
    have z7 : (W6.setCell ⟨w.heap.size + 1, 0, none⟩ (.int .i64 ya)).heap.size = W6.heap.size := set_size _ _ _
    generalize W6.setCell ⟨w.heap.size + 1, 0, none⟩ (.int .i64 ya) = W7 at *
    clear m1 m2 m0 hB6 b6 H6 c1 f1 c2 f2
    obtain ⟨c2, f2⟩ := one_at18 g2
    have H7 := Lib.hid (And.intro g1 (And.intro g2 (And.intro g0 (And.intro S7 (And.intro F7 (And.intro B7 hz))))))
    obtain ⟨yb, hyb⟩ : ∃ y, addI vb wx = y := ⟨_, rfl⟩
    rw [hyb] at SN ⊢
    clear g1 g2 g0 S7 F7 B7 hz cB hyb
    gi_wp2_with fail
    obtain ⟨g1, g2, g0, S7, F7, B7, hz⟩ := H7.out
    refine ⟨F7.trans (Fixed.setCell W7 (a := ⟨w.heap.size + 1 + 1, 0, none⟩) (by show w.heap.size + 1 + 1 < w6.heap.size; omega) (.int .i64 yb)), S7.trans (Stays.setCell W7 _ _ (fun h => h.2.2 rfl)), ⟨?_, ?_, (block_far _ _ (by omega)).trans g0⟩, B7.setCell (p := ⟨w.heap.size + 1 + 1, 0, none⟩) (by show w.heap.size ≤ w.heap.size + 1 + 1; omega) (.int .i64 yb), by rw [set_size]; omega⟩
    · rw [SN.out.1]
      exact (block_far _ _ (by omega)).trans g1
    · rw [SN.out.2]
      exact block_set 0 _ g2
  case done =>
    rintro D xs X hD hS ⟨⟨h1, h2, h0⟩, hB, hz⟩ hK
    rw [hS] at h1 h2
    have ra := accO_range pf (pairs18 o d (lenC o d))
    have rb := accW_range (pairs18 o d (lenC o d))
    obtain ⟨va, hva⟩ : ∃ v, accO pf (pairs18 o d (lenC o d)) = v := ⟨_, rfl⟩
    obtain ⟨vb, hvb⟩ : ∃ v, accW (pairs18 o d (lenC o d)) = v := ⟨_, rfl⟩
    rw [hva] at h1 ra
    rw [hvb] at h2 rb
    have HV := Lib.hid (And.intro hva hvb)
    clear hva hvb hS
    have cD := fdiv_any va vb ra.1 ra.2 rb.1 rb.2
    obtain ⟨c1, _⟩ := one_at18 h1
    obtain ⟨c2, _⟩ := one_at18 h2
    have H := Lib.hid (And.intro hB hK)
    have hsz := hB.size
    clear h1 h2 h0 hB hK
    gi_wp2_with fail
    refine ⟨trivial, rfl, (callsIn_wide.2 (cD _)).mono ?_⟩
    rintro e W5 ⟨rfl, b5⟩
    obtain ⟨hB, hK⟩ := H.out
    have hDl := (Array.getElem?_eq_some_iff.1 hK).1
    have hK5 := (b5.block D hDl).trans hK
    have HE := Lib.hid (And.intro (hB.trans (b5.mono hsz)) hK5)
    clear hB hK b5 hK5 c1 c2 H cD
    gi_wp2_with fail
    obtain ⟨hB, hK⟩ := HE.out
    refine ⟨by simp, .inl ⟨_, _, rfl, run_takeDeferred hK, ?_⟩⟩
    exact ⟨_, results_tmp rfl _ _ _, by rw [HV.out.1, HV.out.2]; rfl, hB.trans (belowK_b (w := w) (Nat.le_refl _) W5 D _ _ (by omega) hK rfl rfl)⟩
  case stop =>
    rintro D c pre W _ _ h _
    exact h.elim
end Go.Proofs.Ytekdablolacgfaa.W
