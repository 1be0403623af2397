/- Layer 19's own code, walked: what each state does; what an offset does. -/
import Derived.Test.YtlidlmgmijndcaaGreatLpH
namespace Go.Proofs.YtlidlmgmijndcaaGreat.W
open Go.RowKit Go.Sort Go.WideShapes
set_option linter.unusedVariables false
set_option linter.unusedSimpArgs false
theorem hold_range19 (p : Pm) (f : Int) : -9223372036854775808 ≤ holdL p f ∧ holdL p f ≤ 9223372036854775807 := rangeC19 _ _ _
/-- n, measured. -/
abbrev measL (n : Nw) : Nw := { n with d := { n.d with freq := holdL n.p (addI n.d.freq (divI n.off n.gone)) } }
/-- n, turned. -/
abbrev turnN (n : Nw) : Nw := { n with d := { n.d with freq := holdL n.p (addI n.d.freq (turnL n.p n.d n.off n.gone n.poll)), wan := smoothL n.d.wan (subI (holdL n.p (addI n.d.freq (turnL n.p n.d n.off n.gone n.poll))) n.d.freq) } }
theorem meas_typed {n : Nw} (h : n.Typed) : (measL n).Typed :=
  ⟨h.p, h.rate, ⟨h.d.st, h.d.at_, h.d.off, hold_range19 _ _, h.d.jit, h.d.wan, h.d.rest⟩, h.off, h.at_, h.gone, h.poll⟩
theorem turn_typed {n : Nw} (h : n.Typed) : (turnN n).Typed :=
  ⟨h.p, h.rate, ⟨h.d.st, h.d.at_, h.d.off, hold_range19 _ _, h.d.jit, rangeT19 _ _, h.d.rest⟩, h.off, h.at_, h.gone, h.poll⟩
set_option maxRecDepth 100000 in
set_option maxHeartbeats 6400000 in
theorem nset_far (n : Nw) (tn : n.Typed) (st : Int) (g0 : n.p.step < absI n.off) (w : World) :
    Calls Tryz.prog 75 #[n.val, .int .i64 st] w fun e w' => e = .returned (ddV (stepL n.d n.at_ st) 2 n.off) ∧ Below w.heap.size w w' := by
  obtain ⟨W, hW⟩ : ∃ W, (w.alloc (.cells (nwC n) 63)).alloc (.cells dd0 58) = W := ⟨_, rfl⟩
  obtain ⟨h1, h2, hB, hz⟩ := two_newE _ _ _ _ _ _ hW
  have c0 : ∀ w, Calls Tryz.prog 76 #[n.val] w fun e w' => e = .returned (.bool (decide (n.p.step < absI n.off))) ∧ Below w.heap.size w w' := nfar_any n tn
  rw [decide_eq_true g0] at c0
  have c1 := nstep_any n st
  have one := dd_oneE (stepL n.d n.at_ st) 2 n.off
  unfold Nw.val ddV at *
  unfold nwC ddC at *
  unfold dd0 at hW
  try dsimp only at *
  have HH := Lib.hid (And.intro h1 (And.intro h2 hB))
  clear tn g0 h2 hB hz
  go_enter Tryz.func75, Tryz.ntmps75
  go_wp2_with (first | (rw [hW]) | (refine at_load_E rfl Tryz.underlying63 info_nwE rfl _ rfl _ rfl h1 rfl ?_))
  (with_reducible refine (c0 _).mono ?_)
  rintro e w1 ⟨rfl, B⟩
  clear h1 c0 hW
  obtain ⟨h1', h2', hB'⟩ := HH.out
  have h1 := (B.block _ (Array.getElem?_eq_some_iff.1 h1').1).trans h1'
  have h2 := (B.block _ (Array.getElem?_eq_some_iff.1 h2').1).trans h2'
  have hB := hB'.trans (B.mono hB'.size)
  clear HH h1' h2' hB' B
  have HH := Lib.hid (And.intro h1 (And.intro h2 hB))
  clear hB h2
  go_wp2_with (refine at_load_E rfl Tryz.underlying63 info_nwE rfl _ rfl _ rfl h1 rfl ?_)
  (with_reducible refine (c1 _).mono ?_)
  rintro e w2 ⟨rfl, B⟩
  clear h1 c1
  obtain ⟨h1', h2', hB'⟩ := HH.out
  have h1 := (B.block _ (Array.getElem?_eq_some_iff.1 h1').1).trans h1'
  have h2 := (B.block _ (Array.getElem?_eq_some_iff.1 h2').1).trans h2'
  have hB := hB'.trans (B.mono hB'.size)
  clear HH h1' h2' hB' B
  have HH := Lib.hid (And.intro h1 (And.intro h2 hB))
  clear hB
  go_wp2_with (refine at_store_E info_ddE rfl _ _ rfl _ rfl rfl h2 rfl rfl one ?_)
  obtain ⟨-, h2, hB⟩ := HH.out
  exact bodyPost_ret (results_cellE Tryz.results75 _ rfl (loadVar_E rfl Tryz.underlying58 info_ddE (setRow_heap w2 _ _ _ _ _ h2) rfl)) rfl ⟨rfl, below_setRowE hB (by omega) _⟩
set_option maxRecDepth 100000 in
set_option maxHeartbeats 6400000 in
theorem nset_near (n : Nw) (tn : n.Typed) (st : Int) (g0 : ¬ n.p.step < absI n.off) (w : World) :
    Calls Tryz.prog 75 #[n.val, .int .i64 st] w fun e w' => e = .returned (ddV (takeL (n).d n.off n.at_ st) 1 n.off) ∧ Below w.heap.size w w' := by
  obtain ⟨W, hW⟩ : ∃ W, (w.alloc (.cells (nwC n) 63)).alloc (.cells dd0 58) = W := ⟨_, rfl⟩
  obtain ⟨h1, h2, hB, hz⟩ := two_newE _ _ _ _ _ _ hW
  have c0 : ∀ w, Calls Tryz.prog 76 #[n.val] w fun e w' => e = .returned (.bool (decide (n.p.step < absI n.off))) ∧ Below w.heap.size w w' := nfar_any n tn
  rw [decide_eq_false g0] at c0
  have c1 := ntake_any n tn st
  have one := dd_oneE (takeL (n).d n.off n.at_ st) 1 n.off
  unfold Nw.val ddV at *
  unfold nwC ddC at *
  unfold dd0 at hW
  try dsimp only at *
  generalize takeL _ _ _ _ = D at *
  have HH := Lib.hid (And.intro h1 (And.intro h2 hB))
  clear tn g0 h2 hB hz
  go_enter Tryz.func75, Tryz.ntmps75
  go_wp2_with (first | (rw [hW]) | (refine at_load_E rfl Tryz.underlying63 info_nwE rfl _ rfl _ rfl h1 rfl ?_))
  (with_reducible refine (c0 _).mono ?_)
  rintro e w1 ⟨rfl, B⟩
  clear h1 c0 hW
  obtain ⟨h1', h2', hB'⟩ := HH.out
  have h1 := (B.block _ (Array.getElem?_eq_some_iff.1 h1').1).trans h1'
  have h2 := (B.block _ (Array.getElem?_eq_some_iff.1 h2').1).trans h2'
  have hB := hB'.trans (B.mono hB'.size)
  clear HH h1' h2' hB' B
  have HH := Lib.hid (And.intro h1 (And.intro h2 hB))
  clear hB h2
  go_wp2_with (refine at_load_E rfl Tryz.underlying63 info_nwE rfl _ rfl _ rfl h1 rfl ?_)
  (with_reducible refine (c1 _).mono ?_)
  rintro e w2 ⟨rfl, B⟩
  clear h1 c1
  obtain ⟨h1', h2', hB'⟩ := HH.out
  have h1 := (B.block _ (Array.getElem?_eq_some_iff.1 h1').1).trans h1'
  have h2 := (B.block _ (Array.getElem?_eq_some_iff.1 h2').1).trans h2'
  have hB := hB'.trans (B.mono hB'.size)
  clear HH h1' h2' hB' B
  have HH := Lib.hid (And.intro h1 (And.intro h2 hB))
  clear hB
  go_wp2_with (refine at_store_E info_ddE rfl _ _ rfl _ rfl rfl h2 rfl rfl one ?_)
  obtain ⟨-, h2, hB⟩ := HH.out
  exact bodyPost_ret (results_cellE Tryz.results75 _ rfl (loadVar_E rfl Tryz.underlying58 info_ddE (setRow_heap w2 _ _ _ _ _ h2) rfl)) rfl ⟨rfl, below_setRowE hB (by omega) _⟩
set_option maxRecDepth 100000 in
set_option maxHeartbeats 6400000 in
theorem natNSet_far (n : Nw) (tn : n.Typed) (g0 : n.p.step < absI n.off) (w : World) :
    Calls Tryz.prog 36 #[n.val] w fun e w' => e = .returned (ddV (stepL n.d n.at_ 3) 2 n.off) ∧ Below w.heap.size w w' := by
  obtain ⟨W, hW⟩ : ∃ W, (w.alloc (.cells (nwC n) 63)).alloc (.cells dd0 58) = W := ⟨_, rfl⟩
  obtain ⟨h1, h2, hB, hz⟩ := two_newE _ _ _ _ _ _ hW
  have c0 := nset_far n tn 3 g0
  have one := dd_oneE (stepL n.d n.at_ 3) 2 n.off
  unfold Nw.val ddV at *
  unfold nwC ddC at *
  unfold dd0 at hW
  try dsimp only at *
  have HH := Lib.hid (And.intro h1 (And.intro h2 hB))
  clear tn g0 h2 hB hz
  go_enter Tryz.func36, Tryz.ntmps36
  go_wp2_with (first | (rw [hW]) | (refine at_load_E rfl Tryz.underlying63 info_nwE rfl _ rfl _ rfl h1 rfl ?_))
  (with_reducible refine (c0 _).mono ?_)
  rintro e w1 ⟨rfl, B⟩
  clear h1 c0 hW
  obtain ⟨h1', h2', hB'⟩ := HH.out
  have h1 := (B.block _ (Array.getElem?_eq_some_iff.1 h1').1).trans h1'
  have h2 := (B.block _ (Array.getElem?_eq_some_iff.1 h2').1).trans h2'
  have hB := hB'.trans (B.mono hB'.size)
  clear HH h1' h2' hB' B
  have HH := Lib.hid (And.intro h1 (And.intro h2 hB))
  clear hB
  go_wp2_with (refine at_store_E info_ddE rfl _ _ rfl _ rfl rfl h2 rfl rfl one ?_)
  obtain ⟨-, h2, hB⟩ := HH.out
  exact bodyPost_ret (results_cellE Tryz.results36 _ rfl (loadVar_E rfl Tryz.underlying58 info_ddE (setRow_heap w1 _ _ _ _ _ h2) rfl)) rfl ⟨rfl, below_setRowE hB (by omega) _⟩
set_option maxRecDepth 100000 in
set_option maxHeartbeats 6400000 in
theorem natNSet_near (n : Nw) (tn : n.Typed) (g0 : ¬ n.p.step < absI n.off) (w : World) :
    Calls Tryz.prog 36 #[n.val] w fun e w' => e = .returned (ddV (takeL (n).d n.off n.at_ 3) 1 n.off) ∧ Below w.heap.size w w' := by
  obtain ⟨W, hW⟩ : ∃ W, (w.alloc (.cells (nwC n) 63)).alloc (.cells dd0 58) = W := ⟨_, rfl⟩
  obtain ⟨h1, h2, hB, hz⟩ := two_newE _ _ _ _ _ _ hW
  have c0 := nset_near n tn 3 g0
  have one := dd_oneE (takeL (n).d n.off n.at_ 3) 1 n.off
  unfold Nw.val ddV at *
  unfold nwC ddC at *
  unfold dd0 at hW
  try dsimp only at *
  generalize takeL _ _ _ _ = D at *
  have HH := Lib.hid (And.intro h1 (And.intro h2 hB))
  clear tn g0 h2 hB hz
  go_enter Tryz.func36, Tryz.ntmps36
  go_wp2_with (first | (rw [hW]) | (refine at_load_E rfl Tryz.underlying63 info_nwE rfl _ rfl _ rfl h1 rfl ?_))
  (with_reducible refine (c0 _).mono ?_)
  rintro e w1 ⟨rfl, B⟩
  clear h1 c0 hW
  obtain ⟨h1', h2', hB'⟩ := HH.out
  have h1 := (B.block _ (Array.getElem?_eq_some_iff.1 h1').1).trans h1'
  have h2 := (B.block _ (Array.getElem?_eq_some_iff.1 h2').1).trans h2'
  have hB := hB'.trans (B.mono hB'.size)
  clear HH h1' h2' hB' B
  have HH := Lib.hid (And.intro h1 (And.intro h2 hB))
  clear hB
  go_wp2_with (refine at_store_E info_ddE rfl _ _ rfl _ rfl rfl h2 rfl rfl one ?_)
  obtain ⟨-, h2, hB⟩ := HH.out
  exact bodyPost_ret (results_cellE Tryz.results36 _ rfl (loadVar_E rfl Tryz.underlying58 info_ddE (setRow_heap w1 _ _ _ _ _ h2) rfl)) rfl ⟨rfl, below_setRowE hB (by omega) _⟩
set_option maxRecDepth 100000 in
set_option maxHeartbeats 6400000 in
theorem natFSet_far (n : Nw) (tn : n.Typed) (g0 : n.p.step < absI n.off) (w : World) :
    Calls Tryz.prog 37 #[n.val] w fun e w' => e = .returned (ddV (stepL n.d n.at_ 4) 2 n.off) ∧ Below w.heap.size w w' := by
  obtain ⟨W, hW⟩ : ∃ W, (w.alloc (.cells (nwC n) 63)).alloc (.cells dd0 58) = W := ⟨_, rfl⟩
  obtain ⟨h1, h2, hB, hz⟩ := two_newE _ _ _ _ _ _ hW
  have c0 := nset_far n tn 4 g0
  have one := dd_oneE (stepL n.d n.at_ 4) 2 n.off
  unfold Nw.val ddV at *
  unfold nwC ddC at *
  unfold dd0 at hW
  try dsimp only at *
  have HH := Lib.hid (And.intro h1 (And.intro h2 hB))
  clear tn g0 h2 hB hz
  go_enter Tryz.func37, Tryz.ntmps37
  go_wp2_with (first | (rw [hW]) | (refine at_load_E rfl Tryz.underlying63 info_nwE rfl _ rfl _ rfl h1 rfl ?_))
  (with_reducible refine (c0 _).mono ?_)
  rintro e w1 ⟨rfl, B⟩
  clear h1 c0 hW
  obtain ⟨h1', h2', hB'⟩ := HH.out
  have h1 := (B.block _ (Array.getElem?_eq_some_iff.1 h1').1).trans h1'
  have h2 := (B.block _ (Array.getElem?_eq_some_iff.1 h2').1).trans h2'
  have hB := hB'.trans (B.mono hB'.size)
  clear HH h1' h2' hB' B
  have HH := Lib.hid (And.intro h1 (And.intro h2 hB))
  clear hB
  go_wp2_with (refine at_store_E info_ddE rfl _ _ rfl _ rfl rfl h2 rfl rfl one ?_)
  obtain ⟨-, h2, hB⟩ := HH.out
  exact bodyPost_ret (results_cellE Tryz.results37 _ rfl (loadVar_E rfl Tryz.underlying58 info_ddE (setRow_heap w1 _ _ _ _ _ h2) rfl)) rfl ⟨rfl, below_setRowE hB (by omega) _⟩
set_option maxRecDepth 100000 in
set_option maxHeartbeats 6400000 in
theorem natFSet_near (n : Nw) (tn : n.Typed) (g0 : ¬ n.p.step < absI n.off) (w : World) :
    Calls Tryz.prog 37 #[n.val] w fun e w' => e = .returned (ddV (takeL (n).d n.off n.at_ 4) 1 n.off) ∧ Below w.heap.size w w' := by
  obtain ⟨W, hW⟩ : ∃ W, (w.alloc (.cells (nwC n) 63)).alloc (.cells dd0 58) = W := ⟨_, rfl⟩
  obtain ⟨h1, h2, hB, hz⟩ := two_newE _ _ _ _ _ _ hW
  have c0 := nset_near n tn 4 g0
  have one := dd_oneE (takeL (n).d n.off n.at_ 4) 1 n.off
  unfold Nw.val ddV at *
  unfold nwC ddC at *
  unfold dd0 at hW
  try dsimp only at *
  generalize takeL _ _ _ _ = D at *
  have HH := Lib.hid (And.intro h1 (And.intro h2 hB))
  clear tn g0 h2 hB hz
  go_enter Tryz.func37, Tryz.ntmps37
  go_wp2_with (first | (rw [hW]) | (refine at_load_E rfl Tryz.underlying63 info_nwE rfl _ rfl _ rfl h1 rfl ?_))
  (with_reducible refine (c0 _).mono ?_)
  rintro e w1 ⟨rfl, B⟩
  clear h1 c0 hW
  obtain ⟨h1', h2', hB'⟩ := HH.out
  have h1 := (B.block _ (Array.getElem?_eq_some_iff.1 h1').1).trans h1'
  have h2 := (B.block _ (Array.getElem?_eq_some_iff.1 h2').1).trans h2'
  have hB := hB'.trans (B.mono hB'.size)
  clear HH h1' h2' hB' B
  have HH := Lib.hid (And.intro h1 (And.intro h2 hB))
  clear hB
  go_wp2_with (refine at_store_E info_ddE rfl _ _ rfl _ rfl rfl h2 rfl rfl one ?_)
  obtain ⟨-, h2, hB⟩ := HH.out
  exact bodyPost_ret (results_cellE Tryz.results37 _ rfl (loadVar_E rfl Tryz.underlying58 info_ddE (setRow_heap w1 _ _ _ _ _ h2) rfl)) rfl ⟨rfl, below_setRowE hB (by omega) _⟩
set_option maxRecDepth 100000 in
set_option maxHeartbeats 6400000 in
theorem natFreq_far (n : Nw) (tn : n.Typed) (g0 : n.p.step < absI n.off) (w : World) :
    Calls Tryz.prog 39 #[n.val] w fun e w' => e = .returned (ddV { n.d with at_ := n.at_, st := 2 } 0 0) ∧ Below w.heap.size w w' := by
  obtain ⟨W, hW⟩ : ∃ W, (w.alloc (.cells (nwC n) 63)).alloc (.cells dd0 58) = W := ⟨_, rfl⟩
  obtain ⟨h1, h2, hB, hz⟩ := two_newE _ _ _ _ _ _ hW
  have c0 : ∀ w, Calls Tryz.prog 76 #[n.val] w fun e w' => e = .returned (.bool (decide (n.p.step < absI n.off))) ∧ Below w.heap.size w w' := nfar_any n tn
  rw [decide_eq_true g0] at c0
  have c1 := nwait_any n
  have one := dd_oneE { n.d with at_ := n.at_, st := 2 } 0 0
  unfold Nw.val ddV at *
  unfold nwC ddC at *
  unfold dd0 at hW
  try dsimp only at *
  have HH := Lib.hid (And.intro h1 (And.intro h2 hB))
  clear tn g0 h2 hB hz
  go_enter Tryz.func39, Tryz.ntmps39
  go_wp2_with (first | (rw [hW]) | (refine at_load_E rfl Tryz.underlying63 info_nwE rfl _ rfl _ rfl h1 rfl ?_))
  (with_reducible refine (c0 _).mono ?_)
  rintro e w1 ⟨rfl, B⟩
  clear h1 c0 hW
  obtain ⟨h1', h2', hB'⟩ := HH.out
  have h1 := (B.block _ (Array.getElem?_eq_some_iff.1 h1').1).trans h1'
  have h2 := (B.block _ (Array.getElem?_eq_some_iff.1 h2').1).trans h2'
  have hB := hB'.trans (B.mono hB'.size)
  clear HH h1' h2' hB' B
  have HH := Lib.hid (And.intro h1 (And.intro h2 hB))
  clear hB h2
  go_wp2_with (refine at_load_E rfl Tryz.underlying63 info_nwE rfl _ rfl _ rfl h1 rfl ?_)
  (with_reducible refine (c1 _).mono ?_)
  rintro e w2 ⟨rfl, B⟩
  clear h1 c1
  obtain ⟨h1', h2', hB'⟩ := HH.out
  have h1 := (B.block _ (Array.getElem?_eq_some_iff.1 h1').1).trans h1'
  have h2 := (B.block _ (Array.getElem?_eq_some_iff.1 h2').1).trans h2'
  have hB := hB'.trans (B.mono hB'.size)
  clear HH h1' h2' hB' B
  have HH := Lib.hid (And.intro h1 (And.intro h2 hB))
  clear hB
  go_wp2_with (refine at_store_E info_ddE rfl _ _ rfl _ rfl rfl h2 rfl rfl one ?_)
  obtain ⟨-, h2, hB⟩ := HH.out
  exact bodyPost_ret (results_cellE Tryz.results39 _ rfl (loadVar_E rfl Tryz.underlying58 info_ddE (setRow_heap w2 _ _ _ _ _ h2) rfl)) rfl ⟨rfl, below_setRowE hB (by omega) _⟩
set_option maxRecDepth 100000 in
set_option maxHeartbeats 6400000 in
theorem natFreq_soon (n : Nw) (tn : n.Typed) (g0 : ¬ n.p.step < absI n.off) (g1 : n.gone < n.p.watch) (w : World) :
    Calls Tryz.prog 39 #[n.val] w fun e w' => e = .returned (ddV n.d 0 0) ∧ Below w.heap.size w w' := by
  obtain ⟨W, hW⟩ : ∃ W, (w.alloc (.cells (nwC n) 63)).alloc (.cells dd0 58) = W := ⟨_, rfl⟩
  obtain ⟨h1, h2, hB, hz⟩ := two_newE _ _ _ _ _ _ hW
  have c0 : ∀ w, Calls Tryz.prog 76 #[n.val] w fun e w' => e = .returned (.bool (decide (n.p.step < absI n.off))) ∧ Below w.heap.size w w' := nfar_any n tn
  rw [decide_eq_false g0] at c0
  have c1 : ∀ w, Calls Tryz.prog 79 #[n.val] w fun e w' => e = .returned (.bool (decide (n.gone < n.p.watch))) ∧ Below w.heap.size w w' := nsoon_any n
  rw [decide_eq_true g1] at c1
  have c2 := nnothing_any n
  have one := dd_oneE n.d 0 0
  unfold Nw.val ddV at *
  unfold nwC ddC at *
  unfold dd0 at hW
  try dsimp only at *
  have HH := Lib.hid (And.intro h1 (And.intro h2 hB))
  clear tn g0 g1 h2 hB hz
  go_enter Tryz.func39, Tryz.ntmps39
  go_wp2_with (first | (rw [hW]) | (refine at_load_E rfl Tryz.underlying63 info_nwE rfl _ rfl _ rfl h1 rfl ?_))
  (with_reducible refine (c0 _).mono ?_)
  rintro e w1 ⟨rfl, B⟩
  clear h1 c0 hW
  obtain ⟨h1', h2', hB'⟩ := HH.out
  have h1 := (B.block _ (Array.getElem?_eq_some_iff.1 h1').1).trans h1'
  have h2 := (B.block _ (Array.getElem?_eq_some_iff.1 h2').1).trans h2'
  have hB := hB'.trans (B.mono hB'.size)
  clear HH h1' h2' hB' B
  have HH := Lib.hid (And.intro h1 (And.intro h2 hB))
  clear hB h2
  go_wp2_with (refine at_load_E rfl Tryz.underlying63 info_nwE rfl _ rfl _ rfl h1 rfl ?_)
  (with_reducible refine (c1 _).mono ?_)
  rintro e w2 ⟨rfl, B⟩
  clear h1 c1
  obtain ⟨h1', h2', hB'⟩ := HH.out
  have h1 := (B.block _ (Array.getElem?_eq_some_iff.1 h1').1).trans h1'
  have h2 := (B.block _ (Array.getElem?_eq_some_iff.1 h2').1).trans h2'
  have hB := hB'.trans (B.mono hB'.size)
  clear HH h1' h2' hB' B
  have HH := Lib.hid (And.intro h1 (And.intro h2 hB))
  clear hB h2
  go_wp2_with (refine at_load_E rfl Tryz.underlying63 info_nwE rfl _ rfl _ rfl h1 rfl ?_)
  (with_reducible refine (c2 _).mono ?_)
  rintro e w3 ⟨rfl, B⟩
  clear h1 c2
  obtain ⟨h1', h2', hB'⟩ := HH.out
  have h1 := (B.block _ (Array.getElem?_eq_some_iff.1 h1').1).trans h1'
  have h2 := (B.block _ (Array.getElem?_eq_some_iff.1 h2').1).trans h2'
  have hB := hB'.trans (B.mono hB'.size)
  clear HH h1' h2' hB' B
  have HH := Lib.hid (And.intro h1 (And.intro h2 hB))
  clear hB
  go_wp2_with (refine at_store_E info_ddE rfl _ _ rfl _ rfl rfl h2 rfl rfl one ?_)
  obtain ⟨-, h2, hB⟩ := HH.out
  exact bodyPost_ret (results_cellE Tryz.results39 _ rfl (loadVar_E rfl Tryz.underlying58 info_ddE (setRow_heap w3 _ _ _ _ _ h2) rfl)) rfl ⟨rfl, below_setRowE hB (by omega) _⟩
set_option maxRecDepth 100000 in
set_option maxHeartbeats 6400000 in
theorem natFreq_late (n : Nw) (tn : n.Typed) (g0 : ¬ n.p.step < absI n.off) (g1 : ¬ n.gone < n.p.watch) (w : World) :
    Calls Tryz.prog 39 #[n.val] w fun e w' => e = .returned (ddV (takeL ((measL n)).d n.off n.at_ 4) 1 n.off) ∧ Below w.heap.size w w' := by
  obtain ⟨W, hW⟩ : ∃ W, (w.alloc (.cells (nwC n) 63)).alloc (.cells dd0 58) = W := ⟨_, rfl⟩
  obtain ⟨h1, h2, hB, hz⟩ := two_newE _ _ _ _ _ _ hW
  have c0 : ∀ w, Calls Tryz.prog 76 #[n.val] w fun e w' => e = .returned (.bool (decide (n.p.step < absI n.off))) ∧ Below w.heap.size w w' := nfar_any n tn
  rw [decide_eq_false g0] at c0
  have c1 : ∀ w, Calls Tryz.prog 79 #[n.val] w fun e w' => e = .returned (.bool (decide (n.gone < n.p.watch))) ∧ Below w.heap.size w w' := nsoon_any n
  rw [decide_eq_false g1] at c1
  have c2 := nmeas_any n tn
  have c3 := ntake_any (measL n) (meas_typed tn) 4
  have one := dd_oneE (takeL ((measL n)).d n.off n.at_ 4) 1 n.off
  unfold Nw.val ddV at *
  unfold measL at *
  unfold nwC ddC at *
  unfold dd0 at hW
  try dsimp only at *
  generalize takeL _ _ _ _ = D at *
  have HH := Lib.hid (And.intro h1 (And.intro h2 hB))
  clear tn g0 g1 h2 hB hz
  go_enter Tryz.func39, Tryz.ntmps39
  go_wp2_with (first | (rw [hW]) | (refine at_load_E rfl Tryz.underlying63 info_nwE rfl _ rfl _ rfl h1 rfl ?_))
  (with_reducible refine (c0 _).mono ?_)
  rintro e w1 ⟨rfl, B⟩
  clear h1 c0 hW
  obtain ⟨h1', h2', hB'⟩ := HH.out
  have h1 := (B.block _ (Array.getElem?_eq_some_iff.1 h1').1).trans h1'
  have h2 := (B.block _ (Array.getElem?_eq_some_iff.1 h2').1).trans h2'
  have hB := hB'.trans (B.mono hB'.size)
  clear HH h1' h2' hB' B
  have HH := Lib.hid (And.intro h1 (And.intro h2 hB))
  clear hB h2
  go_wp2_with (refine at_load_E rfl Tryz.underlying63 info_nwE rfl _ rfl _ rfl h1 rfl ?_)
  (with_reducible refine (c1 _).mono ?_)
  rintro e w2 ⟨rfl, B⟩
  clear h1 c1
  obtain ⟨h1', h2', hB'⟩ := HH.out
  have h1 := (B.block _ (Array.getElem?_eq_some_iff.1 h1').1).trans h1'
  have h2 := (B.block _ (Array.getElem?_eq_some_iff.1 h2').1).trans h2'
  have hB := hB'.trans (B.mono hB'.size)
  clear HH h1' h2' hB' B
  have HH := Lib.hid (And.intro h1 (And.intro h2 hB))
  clear hB h2
  go_wp2_with (refine at_load_E rfl Tryz.underlying63 info_nwE rfl _ rfl _ rfl h1 rfl ?_)
  (with_reducible refine (c2 _).mono ?_)
  rintro e w3 ⟨rfl, B⟩
  clear h1 c2
  obtain ⟨h1', h2', hB'⟩ := HH.out
  have h1 := (B.block _ (Array.getElem?_eq_some_iff.1 h1').1).trans h1'
  have h2 := (B.block _ (Array.getElem?_eq_some_iff.1 h2').1).trans h2'
  have hB := hB'.trans (B.mono hB'.size)
  clear HH h1' h2' hB' B
  have HH := Lib.hid (And.intro h1 (And.intro h2 hB))
  clear hB h2
  go_wp2_with (refine at_load_E rfl Tryz.underlying63 info_nwE rfl _ rfl _ rfl h1 rfl ?_)
  (with_reducible refine (c3 _).mono ?_)
  rintro e w4 ⟨rfl, B⟩
  clear h1 c3
  obtain ⟨h1', h2', hB'⟩ := HH.out
  have h1 := (B.block _ (Array.getElem?_eq_some_iff.1 h1').1).trans h1'
  have h2 := (B.block _ (Array.getElem?_eq_some_iff.1 h2').1).trans h2'
  have hB := hB'.trans (B.mono hB'.size)
  clear HH h1' h2' hB' B
  have HH := Lib.hid (And.intro h1 (And.intro h2 hB))
  clear hB
  go_wp2_with (refine at_store_E info_ddE rfl _ _ rfl _ rfl rfl h2 rfl rfl one ?_)
  obtain ⟨-, h2, hB⟩ := HH.out
  exact bodyPost_ret (results_cellE Tryz.results39 _ rfl (loadVar_E rfl Tryz.underlying58 info_ddE (setRow_heap w4 _ _ _ _ _ h2) rfl)) rfl ⟨rfl, below_setRowE hB (by omega) _⟩
set_option maxRecDepth 100000 in
set_option maxHeartbeats 6400000 in
theorem natSync_far (n : Nw) (tn : n.Typed) (g0 : n.p.step < absI n.off) (w : World) :
    Calls Tryz.prog 40 #[n.val] w fun e w' => e = .returned (ddV { n.d with at_ := n.at_, st := 2 } 0 0) ∧ Below w.heap.size w w' := by
  obtain ⟨W, hW⟩ : ∃ W, (w.alloc (.cells (nwC n) 63)).alloc (.cells dd0 58) = W := ⟨_, rfl⟩
  obtain ⟨h1, h2, hB, hz⟩ := two_newE _ _ _ _ _ _ hW
  have c0 : ∀ w, Calls Tryz.prog 76 #[n.val] w fun e w' => e = .returned (.bool (decide (n.p.step < absI n.off))) ∧ Below w.heap.size w w' := nfar_any n tn
  rw [decide_eq_true g0] at c0
  have c1 := nwait_any n
  have one := dd_oneE { n.d with at_ := n.at_, st := 2 } 0 0
  unfold Nw.val ddV at *
  unfold nwC ddC at *
  unfold dd0 at hW
  try dsimp only at *
  have HH := Lib.hid (And.intro h1 (And.intro h2 hB))
  clear tn g0 h2 hB hz
  go_enter Tryz.func40, Tryz.ntmps40
  go_wp2_with (first | (rw [hW]) | (refine at_load_E rfl Tryz.underlying63 info_nwE rfl _ rfl _ rfl h1 rfl ?_))
  (with_reducible refine (c0 _).mono ?_)
  rintro e w1 ⟨rfl, B⟩
  clear h1 c0 hW
  obtain ⟨h1', h2', hB'⟩ := HH.out
  have h1 := (B.block _ (Array.getElem?_eq_some_iff.1 h1').1).trans h1'
  have h2 := (B.block _ (Array.getElem?_eq_some_iff.1 h2').1).trans h2'
  have hB := hB'.trans (B.mono hB'.size)
  clear HH h1' h2' hB' B
  have HH := Lib.hid (And.intro h1 (And.intro h2 hB))
  clear hB h2
  go_wp2_with (refine at_load_E rfl Tryz.underlying63 info_nwE rfl _ rfl _ rfl h1 rfl ?_)
  (with_reducible refine (c1 _).mono ?_)
  rintro e w2 ⟨rfl, B⟩
  clear h1 c1
  obtain ⟨h1', h2', hB'⟩ := HH.out
  have h1 := (B.block _ (Array.getElem?_eq_some_iff.1 h1').1).trans h1'
  have h2 := (B.block _ (Array.getElem?_eq_some_iff.1 h2').1).trans h2'
  have hB := hB'.trans (B.mono hB'.size)
  clear HH h1' h2' hB' B
  have HH := Lib.hid (And.intro h1 (And.intro h2 hB))
  clear hB
  go_wp2_with (refine at_store_E info_ddE rfl _ _ rfl _ rfl rfl h2 rfl rfl one ?_)
  obtain ⟨-, h2, hB⟩ := HH.out
  exact bodyPost_ret (results_cellE Tryz.results40 _ rfl (loadVar_E rfl Tryz.underlying58 info_ddE (setRow_heap w2 _ _ _ _ _ h2) rfl)) rfl ⟨rfl, below_setRowE hB (by omega) _⟩
set_option maxRecDepth 100000 in
set_option maxHeartbeats 6400000 in
theorem natSync_near (n : Nw) (tn : n.Typed) (g0 : ¬ n.p.step < absI n.off) (w : World) :
    Calls Tryz.prog 40 #[n.val] w fun e w' => e = .returned (ddV (takeL ((turnN n)).d n.off n.at_ 4) 1 n.off) ∧ Below w.heap.size w w' := by
  obtain ⟨W, hW⟩ : ∃ W, (w.alloc (.cells (nwC n) 63)).alloc (.cells dd0 58) = W := ⟨_, rfl⟩
  obtain ⟨h1, h2, hB, hz⟩ := two_newE _ _ _ _ _ _ hW
  have c0 : ∀ w, Calls Tryz.prog 76 #[n.val] w fun e w' => e = .returned (.bool (decide (n.p.step < absI n.off))) ∧ Below w.heap.size w w' := nfar_any n tn
  rw [decide_eq_false g0] at c0
  have c1 := nturn_any n tn
  have c2 := ntake_any (turnN n) (turn_typed tn) 4
  have one := dd_oneE (takeL ((turnN n)).d n.off n.at_ 4) 1 n.off
  unfold Nw.val ddV at *
  unfold turnN at *
  unfold nwC ddC at *
  unfold dd0 at hW
  try dsimp only at *
  generalize takeL _ _ _ _ = D at *
  have HH := Lib.hid (And.intro h1 (And.intro h2 hB))
  clear tn g0 h2 hB hz
  go_enter Tryz.func40, Tryz.ntmps40
  go_wp2_with (first | (rw [hW]) | (refine at_load_E rfl Tryz.underlying63 info_nwE rfl _ rfl _ rfl h1 rfl ?_))
  (with_reducible refine (c0 _).mono ?_)
  rintro e w1 ⟨rfl, B⟩
  clear h1 c0 hW
  obtain ⟨h1', h2', hB'⟩ := HH.out
  have h1 := (B.block _ (Array.getElem?_eq_some_iff.1 h1').1).trans h1'
  have h2 := (B.block _ (Array.getElem?_eq_some_iff.1 h2').1).trans h2'
  have hB := hB'.trans (B.mono hB'.size)
  clear HH h1' h2' hB' B
  have HH := Lib.hid (And.intro h1 (And.intro h2 hB))
  clear hB h2
  go_wp2_with (refine at_load_E rfl Tryz.underlying63 info_nwE rfl _ rfl _ rfl h1 rfl ?_)
  (with_reducible refine (c1 _).mono ?_)
  rintro e w2 ⟨rfl, B⟩
  clear h1 c1
  obtain ⟨h1', h2', hB'⟩ := HH.out
  have h1 := (B.block _ (Array.getElem?_eq_some_iff.1 h1').1).trans h1'
  have h2 := (B.block _ (Array.getElem?_eq_some_iff.1 h2').1).trans h2'
  have hB := hB'.trans (B.mono hB'.size)
  clear HH h1' h2' hB' B
  have HH := Lib.hid (And.intro h1 (And.intro h2 hB))
  clear hB h2
  go_wp2_with (refine at_load_E rfl Tryz.underlying63 info_nwE rfl _ rfl _ rfl h1 rfl ?_)
  (with_reducible refine (c2 _).mono ?_)
  rintro e w3 ⟨rfl, B⟩
  clear h1 c2
  obtain ⟨h1', h2', hB'⟩ := HH.out
  have h1 := (B.block _ (Array.getElem?_eq_some_iff.1 h1').1).trans h1'
  have h2 := (B.block _ (Array.getElem?_eq_some_iff.1 h2').1).trans h2'
  have hB := hB'.trans (B.mono hB'.size)
  clear HH h1' h2' hB' B
  have HH := Lib.hid (And.intro h1 (And.intro h2 hB))
  clear hB
  go_wp2_with (refine at_store_E info_ddE rfl _ _ rfl _ rfl rfl h2 rfl rfl one ?_)
  obtain ⟨-, h2, hB⟩ := HH.out
  exact bodyPost_ret (results_cellE Tryz.results40 _ rfl (loadVar_E rfl Tryz.underlying58 info_ddE (setRow_heap w3 _ _ _ _ _ h2) rfl)) rfl ⟨rfl, below_setRowE hB (by omega) _⟩
set_option maxRecDepth 100000 in
set_option maxHeartbeats 6400000 in
theorem natSpik_soon (n : Nw) (tn : n.Typed) (g0 : n.p.step < absI n.off) (g1 : n.gone < n.p.watch) (w : World) :
    Calls Tryz.prog 38 #[n.val] w fun e w' => e = .returned (ddV n.d 0 0) ∧ Below w.heap.size w w' := by
  obtain ⟨W, hW⟩ : ∃ W, (w.alloc (.cells (nwC n) 63)).alloc (.cells dd0 58) = W := ⟨_, rfl⟩
  obtain ⟨h1, h2, hB, hz⟩ := two_newE _ _ _ _ _ _ hW
  have c0 : ∀ w, Calls Tryz.prog 76 #[n.val] w fun e w' => e = .returned (.bool (decide (n.p.step < absI n.off))) ∧ Below w.heap.size w w' := nfar_any n tn
  rw [decide_eq_true g0] at c0
  have c1 : ∀ w, Calls Tryz.prog 79 #[n.val] w fun e w' => e = .returned (.bool (decide (n.gone < n.p.watch))) ∧ Below w.heap.size w w' := nsoon_any n
  rw [decide_eq_true g1] at c1
  have c2 := nnothing_any n
  have one := dd_oneE n.d 0 0
  unfold Nw.val ddV at *
  unfold nwC ddC at *
  unfold dd0 at hW
  try dsimp only at *
  have HH := Lib.hid (And.intro h1 (And.intro h2 hB))
  clear tn g0 g1 h2 hB hz
  go_enter Tryz.func38, Tryz.ntmps38
  go_wp2_with (first | (rw [hW]) | (refine at_load_E rfl Tryz.underlying63 info_nwE rfl _ rfl _ rfl h1 rfl ?_))
  (with_reducible refine (c0 _).mono ?_)
  rintro e w1 ⟨rfl, B⟩
  clear h1 c0 hW
  obtain ⟨h1', h2', hB'⟩ := HH.out
  have h1 := (B.block _ (Array.getElem?_eq_some_iff.1 h1').1).trans h1'
  have h2 := (B.block _ (Array.getElem?_eq_some_iff.1 h2').1).trans h2'
  have hB := hB'.trans (B.mono hB'.size)
  clear HH h1' h2' hB' B
  have HH := Lib.hid (And.intro h1 (And.intro h2 hB))
  clear hB h2
  go_wp2_with (refine at_load_E rfl Tryz.underlying63 info_nwE rfl _ rfl _ rfl h1 rfl ?_)
  (with_reducible refine (c1 _).mono ?_)
  rintro e w2 ⟨rfl, B⟩
  clear h1 c1
  obtain ⟨h1', h2', hB'⟩ := HH.out
  have h1 := (B.block _ (Array.getElem?_eq_some_iff.1 h1').1).trans h1'
  have h2 := (B.block _ (Array.getElem?_eq_some_iff.1 h2').1).trans h2'
  have hB := hB'.trans (B.mono hB'.size)
  clear HH h1' h2' hB' B
  have HH := Lib.hid (And.intro h1 (And.intro h2 hB))
  clear hB h2
  go_wp2_with (refine at_load_E rfl Tryz.underlying63 info_nwE rfl _ rfl _ rfl h1 rfl ?_)
  (with_reducible refine (c2 _).mono ?_)
  rintro e w3 ⟨rfl, B⟩
  clear h1 c2
  obtain ⟨h1', h2', hB'⟩ := HH.out
  have h1 := (B.block _ (Array.getElem?_eq_some_iff.1 h1').1).trans h1'
  have h2 := (B.block _ (Array.getElem?_eq_some_iff.1 h2').1).trans h2'
  have hB := hB'.trans (B.mono hB'.size)
  clear HH h1' h2' hB' B
  have HH := Lib.hid (And.intro h1 (And.intro h2 hB))
  clear hB
  go_wp2_with (refine at_store_E info_ddE rfl _ _ rfl _ rfl rfl h2 rfl rfl one ?_)
  obtain ⟨-, h2, hB⟩ := HH.out
  exact bodyPost_ret (results_cellE Tryz.results38 _ rfl (loadVar_E rfl Tryz.underlying58 info_ddE (setRow_heap w3 _ _ _ _ _ h2) rfl)) rfl ⟨rfl, below_setRowE hB (by omega) _⟩
set_option maxRecDepth 100000 in
set_option maxHeartbeats 6400000 in
theorem natSpik_late (n : Nw) (tn : n.Typed) (g0 : n.p.step < absI n.off) (g1 : ¬ n.gone < n.p.watch) (w : World) :
    Calls Tryz.prog 38 #[n.val] w fun e w' => e = .returned (ddV (stepL n.d n.at_ 4) 2 n.off) ∧ Below w.heap.size w w' := by
  obtain ⟨W, hW⟩ : ∃ W, (w.alloc (.cells (nwC n) 63)).alloc (.cells dd0 58) = W := ⟨_, rfl⟩
  obtain ⟨h1, h2, hB, hz⟩ := two_newE _ _ _ _ _ _ hW
  have c0 : ∀ w, Calls Tryz.prog 76 #[n.val] w fun e w' => e = .returned (.bool (decide (n.p.step < absI n.off))) ∧ Below w.heap.size w w' := nfar_any n tn
  rw [decide_eq_true g0] at c0
  have c1 : ∀ w, Calls Tryz.prog 79 #[n.val] w fun e w' => e = .returned (.bool (decide (n.gone < n.p.watch))) ∧ Below w.heap.size w w' := nsoon_any n
  rw [decide_eq_false g1] at c1
  have c2 := nstep_any n 4
  have one := dd_oneE (stepL n.d n.at_ 4) 2 n.off
  unfold Nw.val ddV at *
  unfold nwC ddC at *
  unfold dd0 at hW
  try dsimp only at *
  have HH := Lib.hid (And.intro h1 (And.intro h2 hB))
  clear tn g0 g1 h2 hB hz
  go_enter Tryz.func38, Tryz.ntmps38
  go_wp2_with (first | (rw [hW]) | (refine at_load_E rfl Tryz.underlying63 info_nwE rfl _ rfl _ rfl h1 rfl ?_))
  (with_reducible refine (c0 _).mono ?_)
  rintro e w1 ⟨rfl, B⟩
  clear h1 c0 hW
  obtain ⟨h1', h2', hB'⟩ := HH.out
  have h1 := (B.block _ (Array.getElem?_eq_some_iff.1 h1').1).trans h1'
  have h2 := (B.block _ (Array.getElem?_eq_some_iff.1 h2').1).trans h2'
  have hB := hB'.trans (B.mono hB'.size)
  clear HH h1' h2' hB' B
  have HH := Lib.hid (And.intro h1 (And.intro h2 hB))
  clear hB h2
  go_wp2_with (refine at_load_E rfl Tryz.underlying63 info_nwE rfl _ rfl _ rfl h1 rfl ?_)
  (with_reducible refine (c1 _).mono ?_)
  rintro e w2 ⟨rfl, B⟩
  clear h1 c1
  obtain ⟨h1', h2', hB'⟩ := HH.out
  have h1 := (B.block _ (Array.getElem?_eq_some_iff.1 h1').1).trans h1'
  have h2 := (B.block _ (Array.getElem?_eq_some_iff.1 h2').1).trans h2'
  have hB := hB'.trans (B.mono hB'.size)
  clear HH h1' h2' hB' B
  have HH := Lib.hid (And.intro h1 (And.intro h2 hB))
  clear hB h2
  go_wp2_with (refine at_load_E rfl Tryz.underlying63 info_nwE rfl _ rfl _ rfl h1 rfl ?_)
  (with_reducible refine (c2 _).mono ?_)
  rintro e w3 ⟨rfl, B⟩
  clear h1 c2
  obtain ⟨h1', h2', hB'⟩ := HH.out
  have h1 := (B.block _ (Array.getElem?_eq_some_iff.1 h1').1).trans h1'
  have h2 := (B.block _ (Array.getElem?_eq_some_iff.1 h2').1).trans h2'
  have hB := hB'.trans (B.mono hB'.size)
  clear HH h1' h2' hB' B
  have HH := Lib.hid (And.intro h1 (And.intro h2 hB))
  clear hB
  go_wp2_with (refine at_store_E info_ddE rfl _ _ rfl _ rfl rfl h2 rfl rfl one ?_)
  obtain ⟨-, h2, hB⟩ := HH.out
  exact bodyPost_ret (results_cellE Tryz.results38 _ rfl (loadVar_E rfl Tryz.underlying58 info_ddE (setRow_heap w3 _ _ _ _ _ h2) rfl)) rfl ⟨rfl, below_setRowE hB (by omega) _⟩
set_option maxRecDepth 100000 in
set_option maxHeartbeats 6400000 in
theorem natSpik_near (n : Nw) (tn : n.Typed) (g0 : ¬ n.p.step < absI n.off) (w : World) :
    Calls Tryz.prog 38 #[n.val] w fun e w' => e = .returned (ddV (takeL ((turnN n)).d n.off n.at_ 4) 1 n.off) ∧ Below w.heap.size w w' := by
  obtain ⟨W, hW⟩ : ∃ W, (w.alloc (.cells (nwC n) 63)).alloc (.cells dd0 58) = W := ⟨_, rfl⟩
  obtain ⟨h1, h2, hB, hz⟩ := two_newE _ _ _ _ _ _ hW
  have c0 : ∀ w, Calls Tryz.prog 76 #[n.val] w fun e w' => e = .returned (.bool (decide (n.p.step < absI n.off))) ∧ Below w.heap.size w w' := nfar_any n tn
  rw [decide_eq_false g0] at c0
  have c1 := nturn_any n tn
  have c2 := ntake_any (turnN n) (turn_typed tn) 4
  have one := dd_oneE (takeL ((turnN n)).d n.off n.at_ 4) 1 n.off
  unfold Nw.val ddV at *
  unfold turnN at *
  unfold nwC ddC at *
  unfold dd0 at hW
  try dsimp only at *
  generalize takeL _ _ _ _ = D at *
  have HH := Lib.hid (And.intro h1 (And.intro h2 hB))
  clear tn g0 h2 hB hz
  go_enter Tryz.func38, Tryz.ntmps38
  go_wp2_with (first | (rw [hW]) | (refine at_load_E rfl Tryz.underlying63 info_nwE rfl _ rfl _ rfl h1 rfl ?_))
  (with_reducible refine (c0 _).mono ?_)
  rintro e w1 ⟨rfl, B⟩
  clear h1 c0 hW
  obtain ⟨h1', h2', hB'⟩ := HH.out
  have h1 := (B.block _ (Array.getElem?_eq_some_iff.1 h1').1).trans h1'
  have h2 := (B.block _ (Array.getElem?_eq_some_iff.1 h2').1).trans h2'
  have hB := hB'.trans (B.mono hB'.size)
  clear HH h1' h2' hB' B
  have HH := Lib.hid (And.intro h1 (And.intro h2 hB))
  clear hB h2
  go_wp2_with (refine at_load_E rfl Tryz.underlying63 info_nwE rfl _ rfl _ rfl h1 rfl ?_)
  (with_reducible refine (c1 _).mono ?_)
  rintro e w2 ⟨rfl, B⟩
  clear h1 c1
  obtain ⟨h1', h2', hB'⟩ := HH.out
  have h1 := (B.block _ (Array.getElem?_eq_some_iff.1 h1').1).trans h1'
  have h2 := (B.block _ (Array.getElem?_eq_some_iff.1 h2').1).trans h2'
  have hB := hB'.trans (B.mono hB'.size)
  clear HH h1' h2' hB' B
  have HH := Lib.hid (And.intro h1 (And.intro h2 hB))
  clear hB h2
  go_wp2_with (refine at_load_E rfl Tryz.underlying63 info_nwE rfl _ rfl _ rfl h1 rfl ?_)
  (with_reducible refine (c2 _).mono ?_)
  rintro e w3 ⟨rfl, B⟩
  clear h1 c2
  obtain ⟨h1', h2', hB'⟩ := HH.out
  have h1 := (B.block _ (Array.getElem?_eq_some_iff.1 h1').1).trans h1'
  have h2 := (B.block _ (Array.getElem?_eq_some_iff.1 h2').1).trans h2'
  have hB := hB'.trans (B.mono hB'.size)
  clear HH h1' h2' hB' B
  have HH := Lib.hid (And.intro h1 (And.intro h2 hB))
  clear hB
  go_wp2_with (refine at_store_E info_ddE rfl _ _ rfl _ rfl rfl h2 rfl rfl one ?_)
  obtain ⟨-, h2, hB⟩ := HH.out
  exact bodyPost_ret (results_cellE Tryz.results38 _ rfl (loadVar_E rfl Tryz.underlying58 info_ddE (setRow_heap w3 _ _ _ _ _ h2) rfl)) rfl ⟨rfl, below_setRowE hB (by omega) _⟩
end Go.Proofs.YtlidlmgmijndcaaGreat.W
