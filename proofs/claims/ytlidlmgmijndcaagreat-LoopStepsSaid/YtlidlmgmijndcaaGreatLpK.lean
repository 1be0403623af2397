/- Layer 19's own code, walked: what any offset does. -/
import Derived.Test.YtlidlmgmijndcaaGreatLpJ
namespace Go.Proofs.YtlidlmgmijndcaaGreat.W
open Go.RowKit Go.Sort Go.WideShapes
set_option linter.unusedVariables false
set_option linter.unusedSimpArgs false
set_option maxRecDepth 100000 in
set_option maxHeartbeats 6400000 in
theorem lpupd_panic (p : Pm) (d : Dc) (o at_ n : Int) (o0 : -9223372036854775808 ≤ o ∧ o ≤ 9223372036854775807)
    (hs : (stateI d != 0) = true) (ha : decide (p.panic < absI o) = true) (w : World) :
    Calls Tryz.prog 12 #[p.val, d.val, .int .i64 o, .int .i64 at_, .int .i64 n] w fun e w' => e = .returned (.tuple #[d.val, .int .i64 0, .int .i64 0, .int .i64 190]) ∧ Below w.heap.size w w' := by
  obtain ⟨W, hW⟩ : ∃ W, ((w.alloc (.cells (pmC p) 25)).alloc (.cells (dcC d) 28)).alloc (.cells #[.int .i64 0, .int .i64 0, .int .i64 0, .int .i64 0, .int .i64 0, .int .i64 0, .int .i64 0] 28) = W := ⟨_, rfl⟩
  obtain ⟨h1, h2, h3, hB, hz⟩ := three_newE _ _ _ _ _ _ _ _ hW
  have c1 : ∀ W, Calls Tryz.prog 19 #[d.val] W fun e w' => e = .returned (.int .i64 (stateI d)) ∧ Below W.heap.size W w' := lpstate_any d
  have c2 := abs_any o o0.1 o0.2
  have one := dc_oneE d
  unfold Pm.val Dc.val at *
  unfold dcC at *
  generalize absI o = ab at *
  generalize stateI d = s at *
  have HH := Lib.hid (And.intro h1 (And.intro h2 (And.intro h3 (And.intro hB hz))))
  unfold pmC at hW
  clear h1 h3 hB hz o0
  go_enter Tryz.func12, Tryz.ntmps12
  go_wp2_with (first | (rw [hW]) | (refine at_load_E rfl Tryz.underlying28 info_dcE rfl _ rfl _ rfl h2 rfl ?_))
  (with_reducible refine (c1 _).mono ?_)
  rintro e w1 ⟨rfl, B⟩
  obtain ⟨h1', h2', h3', hB', hz'⟩ := HH.out
  clear h2 hW HH c1
  have h1 := (B.block _ (Array.getElem?_eq_some_iff.1 h1').1).trans h1'
  have h2 := (B.block _ (Array.getElem?_eq_some_iff.1 h2').1).trans h2'
  have h3 := (B.block _ (Array.getElem?_eq_some_iff.1 h3').1).trans h3'
  have hB := hB'.trans (B.mono hB'.size)
  clear h1' h2' h3' hB' hz' B
  have q2 := row_atE h1 2 _ rfl
  have HH := Lib.hid (And.intro h1 (And.intro h2 (And.intro h3 hB)))
  clear h1 h2 h3 hB
  go_upto_region 2 with fail
  go_quiet (with_reducible exact quiet_eq (c2 _))
  go_upto_region 3 with fail
  obtain ⟨h1, h2, h3, hB⟩ := HH.out
  have hb8 := below_drewN hB nq
  have hd8 : (w1.drewN nq).heap[w.heap.size + 1]? = _ := h2
  have hr8 : (w1.drewN nq).heap[w.heap.size + 1 + 1]? = _ := h3
  clear h1 h2 h3 hB HH q2
  generalize w1.drewN nq = W at *
  have HH := Lib.hid (And.intro hr8 hb8)
  clear hb8
  go_wp2_with (first | (refine at_load_E rfl Tryz.underlying28 info_dcE rfl _ rfl _ rfl hd8 rfl ?_) | (refine at_store_E info_dcE rfl _ _ rfl _ rfl rfl hr8 rfl rfl one ?_))
  obtain ⟨hr8, hb8⟩ := HH.out
  exact bodyPost_ret (results_cell_tmp3E Tryz.results12 _ rfl rfl rfl rfl (loadVar_E rfl Tryz.underlying28 info_dcE (setRow_heap W _ _ _ _ _ hr8) rfl)) rfl ⟨rfl, below_setRowE hb8 (by omega) _⟩
theorem state_is19 {d : Dc} (h : 0 ≤ d.st ∧ d.st ≤ 4) : stateI d = d.st := by unfold stateI; rw [if_neg (by omega)]
theorem state_no19 {d : Dc} (h : ¬ (1 ≤ d.st ∧ d.st ≤ 4)) : stateI d = 0 := by unfold stateI; split <;> omega
theorem lpupd_any (p : Pm) (t : p.Typed) (hm : -9223372036854775807 ≤ p.maxrate) (d : Dc) (td : d.Typed) (o at_ n : Int) (o0 : -9223372036854775808 ≤ o ∧ o ≤ 9223372036854775807) (a0 : -9223372036854775808 ≤ at_ ∧ at_ ≤ 9223372036854775807) (n0 : -9223372036854775808 ≤ n ∧ n ≤ 9223372036854775807) (w : World) :
    Calls Tryz.prog 12 #[p.val, d.val, .int .i64 o, .int .i64 at_, .int .i64 n] w fun e w' => e = .returned (.tuple #[(updL p d o at_ n).d.val, .int .i64 (updL p d o at_ n).k, .int .i64 (updL p d o at_ n).by_, .int .i64 (updL p d o at_ n).e]) ∧ Below w.heap.size w w' := by
  unfold updL
  by_cases h : (1 ≤ d.st ∧ d.st ≤ 4) ∧ p.panic < absI o
  · rw [if_pos h]
    have hs : stateI d = d.st := state_is19 (by omega)
    exact lpupd_panic p d o at_ n o0 (by rw [hs]; exact bne_iff_ne.2 (by omega)) (decide_eq_true h.2) w
  · rw [if_neg h]
    have hp : (stateI d != 0) = false ∨ ((stateI d != 0) = true ∧ decide (p.panic < absI o) = false) := by
      by_cases g : 1 ≤ d.st ∧ d.st ≤ 4
      · rw [state_is19 (by omega)]
        exact .inr ⟨bne_iff_ne.2 (by omega), decide_eq_false (fun e => h ⟨g, e⟩)⟩
      · rw [state_no19 g]
        exact .inl rfl
    have tn : Nw.Typed ⟨p, d, o, at_, goneL19 d at_, n⟩ := ⟨t, hm, td, o0, a0, by have := rangeS19 at_ d.at_; unfold goneL19; dsimp only; omega, n0⟩
    by_cases far : p.step < absI o
    · rw [if_pos far]
      unfold farL
      by_cases g1 : d.st = 1
      · rw [if_pos g1]
        exact lpupd_do p t d td o at_ n o0 a0 _ _ _ hp (by rw [state_is19 (by omega), g1]; exact natFSet_far _ tn far) w
      rw [if_neg g1]
      by_cases g2 : d.st = 3 ∨ d.st = 4
      · rw [if_pos g2]
        rcases g2 with g2 | g2
        · exact lpupd_do p t d td o at_ n o0 a0 _ _ _ hp (by rw [state_is19 (by omega), g2]; exact natFreq_far _ tn far) w
        · exact lpupd_do p t d td o at_ n o0 a0 _ _ _ hp (by rw [state_is19 (by omega), g2]; exact natSync_far _ tn far) w
      rw [if_neg g2]
      by_cases g3 : d.st = 2
      · rw [if_pos g3]
        by_cases g4 : goneL19 d at_ < p.watch
        · rw [if_pos g4]
          exact lpupd_do p t d td o at_ n o0 a0 _ _ _ hp (by rw [state_is19 (by omega), g3]; exact natSpik_soon _ tn far g4) w
        · rw [if_neg g4]
          exact lpupd_do p t d td o at_ n o0 a0 _ _ _ hp (by rw [state_is19 (by omega), g3]; exact natSpik_late _ tn far g4) w
      rw [if_neg g3]
      exact lpupd_do p t d td o at_ n o0 a0 _ _ _ hp (by rw [state_no19 (by omega)]; exact natNSet_far _ tn far) w
    · rw [if_neg far]
      unfold nearL
      by_cases g1 : d.st = 1
      · rw [if_pos g1]
        exact lpupd_do p t d td o at_ n o0 a0 _ _ _ hp (by rw [state_is19 (by omega), g1]; exact natFSet_near _ tn far) w
      rw [if_neg g1]
      by_cases g2 : d.st = 3
      · rw [if_pos g2]
        by_cases g4 : goneL19 d at_ < p.watch
        · rw [if_pos g4]
          exact lpupd_do p t d td o at_ n o0 a0 _ _ _ hp (by rw [state_is19 (by omega), g2]; exact natFreq_soon _ tn far g4) w
        · rw [if_neg g4]
          exact lpupd_do p t d td o at_ n o0 a0 _ _ _ hp (by rw [state_is19 (by omega), g2]; exact natFreq_late _ tn far g4) w
      rw [if_neg g2]
      by_cases g3 : d.st = 2 ∨ d.st = 4
      · rw [if_pos g3]
        rcases g3 with g3 | g3
        · exact lpupd_do p t d td o at_ n o0 a0 _ _ _ hp (by rw [state_is19 (by omega), g3]; exact natSpik_near _ tn far) w
        · exact lpupd_do p t d td o at_ n o0 a0 _ _ _ hp (by rw [state_is19 (by omega), g3]; exact natSync_near _ tn far) w
      rw [if_neg g3]
      exact lpupd_do p t d td o at_ n o0 a0 _ _ _ hp (by rw [state_no19 (by omega)]; exact natNSet_near _ tn far) w
end Go.Proofs.YtlidlmgmijndcaaGreat.W
