/- Layer 12's own code, walked: what is known behind a packet; where errors are counted; a count more. -/
import Derived.Test.YtjelbpibofngiaaCkD
import Derived.Maps.OwnSet
import Derived.Maps.OwnOps
namespace Go.Proofs.Ytjelbpibofngiaa.W
open Go.RowKit Go.Sort Go.Maps
set_option linter.unusedVariables false
set_option linter.unusedSimpArgs false
set_option maxRecDepth 100000 in
set_option maxHeartbeats 3200000 in
theorem jtake_any (p : Pm) (t : p.Typed) (a : Aq) (ta : a.Typed) (h : Hd) (th : h.Typed) (w : World) :
    Calls Try.prog 7 #[p.val, a.val, h.val] w fun e w' => e = .returned (.tuple #[(takeA p a h).val, .int .i64 (judgeI p a h)]) ∧ Below w.heap.size w w' := by
  have hB := (args_below p a h w).alloc (args_below p a h w).size (.cells #[.int .i64 0, .int .u64 0, .int .u64 0] 26)
  obtain ⟨zp, za, zh⟩ := args_at p a h w
  replace zp := laid (.cells #[.int .i64 0, .int .u64 0, .int .u64 0] 26) zp
  replace za := laid (.cells #[.int .i64 0, .int .u64 0, .int .u64 0] 26) za
  replace zh := laid (.cells #[.int .i64 0, .int .u64 0, .int .u64 0] 26) zh
  have zr : ((((w.alloc (.cells (pmC p) 23)).alloc (.cells (aqC a) 26)).alloc (.cells (hdC h) 29)).alloc (.cells #[.int .i64 0, .int .u64 0, .int .u64 0] 26)).heap[w.heap.size + 1 + 1 + 1]? = some (.cells #[.int .i64 0, .int .u64 0, .int .u64 0] 26 (0, 0)) := by
    have := heap_alloc_new (((w.alloc (.cells (pmC p) 23)).alloc (.cells (aqC a) 26)).alloc (.cells (hdC h) 29)) (.cells #[.int .i64 0, .int .u64 0, .int .u64 0] 26)
    simpa [World.size_alloc] using this
  have c1 := jjudge_any p t a ta h th
  have c2 := jset_any (judgeI p a h)
  have hv : takeA p a h = if judgeI p a h = 0 ∨ judgeI p a h = 125 ∨ judgeI p a h = 123 ∨ judgeI p a h = 124 then ⟨a.ver, 0, h.tx⟩ else a := rfl
  rw [hv]
  clear hv
  generalize judgeI p a h = r at *
  unfold Pm.val Aq.val Hd.val at *
  by_cases g : r = 0 ∨ r = 125 ∨ r = 123 ∨ r = 124
  · rw [if_pos g]
    rw [decide_eq_true g] at c2
    clear g
    go_enter Try.func7, Try.ntmps7
    go_upto_region 1 with fail
    generalize ((((w.alloc (.cells (pmC p) 23)).alloc (.cells (aqC a) 26)).alloc (.cells (hdC h) 29)).alloc (.cells #[.int .i64 0, .int .u64 0, .int .u64 0] 26)) = w1 at *
    obtain ⟨h0, h1, h2, h3, h4, h5, h6, h7, h8, h9, h10, h11, h12⟩ := thirteen_in zh
    obtain ⟨q0, q1, q2, q3, q4, q5, q6, q7, q8, q9, q10, q11⟩ := twelve_atK zp
    obtain ⟨s0, s1, s2⟩ := three_in za
    go_wp2_with fail
    (with_reducible refine (c1 _).mono ?_)
    rintro e w2 ⟨rfl, hb2⟩
    have HB := Lib.hid (hB.trans (hb2.mono hB.size))
    have ZZ := Lib.hid (And.intro (kept za hb2) (kept zr hb2))
    have zh := kept zh hb2
    have k12 := (thirteen_in zh).2.2.2.2.2.2.2.2.2.2.2.2
    clear h0 h1 h2 h3 h4 h5 h6 h7 h8 h9 h10 h11 h12 q0 q1 q2 q3 q4 q5 q6 q7 q8 q9 q10 q11 s0 s1 s2 zp za zh zr hB hb2 c1
    go_wp2_with fail
    (with_reducible refine (c2 _).mono ?_)
    rintro e w3 ⟨rfl, rfl⟩
    obtain ⟨s0, s1, s2⟩ := three_in ZZ.out.1
    obtain ⟨r0, r1, r2⟩ := three_in ZZ.out.2
    have f1 := bc_frozenK ZZ.out.1
    have f2 := bc_frozenK ZZ.out.2
    clear c2
    go_wp2_with fail
    go_region
    have W3 := block_set 2 (.int .u64 h.tx) (block_set 1 (.int .u64 0) ZZ.out.1)
    have W4 := ((block_far (b := w.heap.size + 1) 2 (.int .u64 h.tx) (by omega)).trans (block_far (b := w.heap.size + 1) 1 (.int .u64 0) (by omega))).trans ZZ.out.2
    have EB := (((HB.out.setCell (p := ⟨w.heap.size + 1, 1, none⟩) (by show w.heap.size ≤ w.heap.size + 1; omega) (.int .u64 0)).setCell (p := ⟨w.heap.size + 1, 2, none⟩) (by show w.heap.size ≤ w.heap.size + 1; omega) (.int .u64 h.tx)).drew)
    have W3' : ((w2.setCell ⟨w.heap.size + 1, 1, none⟩ (.int .u64 0)).setCell ⟨w.heap.size + 1, 2, none⟩ (.int .u64 h.tx)).drew.heap[w.heap.size + 1]? = some (.cells #[.int .i64 a.ver, .int .u64 0, .int .u64 h.tx] 26 (0, 0)) := W3
    have W4' : ((w2.setCell ⟨w.heap.size + 1, 1, none⟩ (.int .u64 0)).setCell ⟨w.heap.size + 1, 2, none⟩ (.int .u64 h.tx)).drew.heap[w.heap.size + 1 + 1 + 1]? = _ := W4
    clear s0 s1 s2 r0 r1 r2 f1 f2 k12 W3 W4
    generalize ((w2.setCell ⟨w.heap.size + 1, 1, none⟩ (.int .u64 0)).setCell ⟨w.heap.size + 1, 2, none⟩ (.int .u64 h.tx)).drew = w4 at *
    obtain ⟨s0, s1, s2⟩ := three_in W3'
    obtain ⟨r0, r1, r2⟩ := three_in W4'
    have f1 := bc_frozenK W3'
    have f2 := bc_frozenK W4'
    go_wp2_with fail
    have E3 := block_set 2 (.int .u64 h.tx) (block_set 1 (.int .u64 0) (block_set 0 (.int .i64 a.ver) W4'))
    have EC := ((EB.setCell (p := ⟨w.heap.size + 1 + 1 + 1, 0, none⟩) (by show w.heap.size ≤ w.heap.size + 1 + 1 + 1; omega) (.int .i64 a.ver)).setCell (p := ⟨w.heap.size + 1 + 1 + 1, 1, none⟩) (by show w.heap.size ≤ w.heap.size + 1 + 1 + 1; omega) (.int .u64 0)).setCell (p := ⟨w.heap.size + 1 + 1 + 1, 2, none⟩) (by show w.heap.size ≤ w.heap.size + 1 + 1 + 1; omega) (.int .u64 h.tx)
    obtain ⟨t0, t1, t2⟩ := three_in E3
    refine bodyPost_ret (v := .tuple #[.agg #[.int .i64 a.ver, .int .u64 0, .int .u64 h.tx], .int .i64 r]) ?_ rfl ?_
    · simp [results, Try.results7, go_sem, t0, t1, t2]
    · exact ⟨rfl, EC⟩
  · rw [if_neg g]
    rw [decide_eq_false g] at c2
    clear g
    go_enter Try.func7, Try.ntmps7
    go_upto_region 1 with fail
    generalize ((((w.alloc (.cells (pmC p) 23)).alloc (.cells (aqC a) 26)).alloc (.cells (hdC h) 29)).alloc (.cells #[.int .i64 0, .int .u64 0, .int .u64 0] 26)) = w1 at *
    obtain ⟨h0, h1, h2, h3, h4, h5, h6, h7, h8, h9, h10, h11, h12⟩ := thirteen_in zh
    obtain ⟨q0, q1, q2, q3, q4, q5, q6, q7, q8, q9, q10, q11⟩ := twelve_atK zp
    obtain ⟨s0, s1, s2⟩ := three_in za
    go_wp2_with fail
    (with_reducible refine (c1 _).mono ?_)
    rintro e w2 ⟨rfl, hb2⟩
    have HB := Lib.hid (hB.trans (hb2.mono hB.size))
    have ZZ := Lib.hid (And.intro (kept za hb2) (kept zr hb2))
    have zh := kept zh hb2
    have k12 := (thirteen_in zh).2.2.2.2.2.2.2.2.2.2.2.2
    clear h0 h1 h2 h3 h4 h5 h6 h7 h8 h9 h10 h11 h12 q0 q1 q2 q3 q4 q5 q6 q7 q8 q9 q10 q11 s0 s1 s2 zp za zh zr hB hb2 c1
    go_wp2_with fail
    (with_reducible refine (c2 _).mono ?_)
    rintro e w3 ⟨rfl, rfl⟩
    obtain ⟨s0, s1, s2⟩ := three_in ZZ.out.1
    obtain ⟨r0, r1, r2⟩ := three_in ZZ.out.2
    have f1 := bc_frozenK ZZ.out.1
    have f2 := bc_frozenK ZZ.out.2
    clear c2
    go_wp2_with fail
    have E3 := block_set 2 (.int .u64 a.last) (block_set 1 (.int .u64 a.pend) (block_set 0 (.int .i64 a.ver) ZZ.out.2))
    have EC := ((HB.out.setCell (p := ⟨w.heap.size + 1 + 1 + 1, 0, none⟩) (by show w.heap.size ≤ w.heap.size + 1 + 1 + 1; omega) (.int .i64 a.ver)).setCell (p := ⟨w.heap.size + 1 + 1 + 1, 1, none⟩) (by show w.heap.size ≤ w.heap.size + 1 + 1 + 1; omega) (.int .u64 a.pend)).setCell (p := ⟨w.heap.size + 1 + 1 + 1, 2, none⟩) (by show w.heap.size ≤ w.heap.size + 1 + 1 + 1; omega) (.int .u64 a.last)
    obtain ⟨t0, t1, t2⟩ := three_in E3
    refine bodyPost_ret (v := .tuple #[.agg #[.int .i64 a.ver, .int .u64 a.pend, .int .u64 a.last], .int .i64 r]) ?_ rfl ?_
    · simp [results, Try.results7, go_sem, t0, t1, t2]
    · exact ⟨rfl, EC⟩
/-- What a map of causes holds: the pairs that were put, the newest one first. -/
def lkC : List (Int × Int) → Int → Option Int
  | [], _ => none
  | (k, v) :: l, r => if r = k then some v else lkC l r
def CauD (f : List (Int × Int)) (D : DataW Unit) : Prop :=
  IsMap D ∧ (∀ r : Int, Maps.has D (.int .i64 r) = (lkC f r).isSome) ∧ (∀ r v : Int, lkC f r = some v → ∀ u, D.atKey (.int .i64 r) u = .lit (.int .i64 v))
theorem cau_none : CauD [] (.map []) := ⟨isMap_empty, (fun r => by simp [has_eq, lkC]), by simp [lkC]⟩
theorem key_neI {a b : Int} (h : a ≠ b) : (Lit.int .i64 a) ≠ .int .i64 b := fun e => h (Lit.int.inj e).2
theorem cau_put {f : List (Int × Int)} {D : DataW Unit} (h : CauD f D) (k v : Int) : CauD ((k, v) :: f) (D.put (.int .i64 k) (.lit (.int .i64 v))) := by
  obtain ⟨h0, h1, h2⟩ := h
  have hk : WideAt.IsKeyLit (.int .i64 k) := trivial
  refine ⟨h0.put _ _, fun r => ?_, fun r x hx u => ?_⟩
  · by_cases e : r = k
    · subst e
      rw [has_put_same h0 hk]
      simp [lkC]
    · rw [has_put_other (key_neI e), h1]
      simp [lkC, e]
  · by_cases e : r = k
    · subst e
      rw [lkC, if_pos rfl] at hx
      rw [← Option.some.inj hx]
      exact atKey_put_same h0 hk _ u
    · rw [lkC, if_neg e] at hx
      rw [atKey_put_other (key_neI e)]
      exact h2 r x hx u
def cauL : List (Int × Int) := [(125, 8), (124, 7), (123, 6), (122, 5), (121, 4), (120, 3), (51, 2), (1, 1), (60, 1), (50, 1), (0, 0)]
theorem cau_is (e0 : Int) : (∃ v, lkC cauL e0 = some v ∧ causeI e0 = v) ∨ (lkC cauL e0 = none ∧ causeI e0 = 9) := by
  unfold causeI
  by_cases x0 : e0 = 0
  · subst x0
    exact .inl ⟨0, by decide, by decide⟩
  · skip
    by_cases x50 : e0 = 50
    · subst x50
      exact .inl ⟨1, by decide, by decide⟩
    · skip
      by_cases x60 : e0 = 60
      · subst x60
        exact .inl ⟨1, by decide, by decide⟩
      · skip
        by_cases x1 : e0 = 1
        · subst x1
          exact .inl ⟨1, by decide, by decide⟩
        · skip
          by_cases x51 : e0 = 51
          · subst x51
            exact .inl ⟨2, by decide, by decide⟩
          · skip
            by_cases x120 : e0 = 120
            · subst x120
              exact .inl ⟨3, by decide, by decide⟩
            · skip
              by_cases x121 : e0 = 121
              · subst x121
                exact .inl ⟨4, by decide, by decide⟩
              · skip
                by_cases x122 : e0 = 122
                · subst x122
                  exact .inl ⟨5, by decide, by decide⟩
                · skip
                  by_cases x123 : e0 = 123
                  · subst x123
                    exact .inl ⟨6, by decide, by decide⟩
                  · skip
                    by_cases x124 : e0 = 124
                    · subst x124
                      exact .inl ⟨7, by decide, by decide⟩
                    · skip
                      by_cases x125 : e0 = 125
                      · subst x125
                        exact .inl ⟨8, by decide, by decide⟩
                      · skip
                        exact .inr ⟨by simp [lkC, cauL, x0, x50, x60, x1, x51, x120, x121, x122, x123, x124, x125], by simp [x0, x50, x60, x1, x51, x120, x121, x122, x123, x124, x125]⟩
theorem below_grownM {B b : Nat} {w0 w w' : World} (h : Below B w0 w) (hs : B ≤ w.heap.size) (hb : B ≤ b) (hg : w.grownBy w' (some b)) : Below B w0 w' :=
  h.grown hg hs (fun k e => by cases e; exact hb)
theorem zero_intM (w : World) : (zeroValue 3).run Try.prog w = .ok (.int .i64 0) w := by kernel_rfl
set_option maxRecDepth 100000 in
set_option maxHeartbeats 3200000 in
theorem causes_any (w : World) :
    Calls Try.prog 17 #[] w fun e w' => ∃ b, e = .returned (.map (some b)) ∧ ∃ D, (∃ n, w'.ownsMap Try.prog 30 (plainElem Try.prog 3) b n D) ∧ CauD cauL D ∧ Below w.heap.size w w' := by
  have hB0 : Below w.heap.size w (w.alloc (.map #[] 0)) := (Below.refl _ _).alloc (Nat.le_refl _) _
  have own0 : (w.alloc (.map #[] 0)).ownsMap Try.prog 30 (plainElem Try.prog 3) w.heap.size 0 (.map [] : DataW Unit) := World.ownsMap_made _ _ _ _
  have D0 := cau_none
  obtain ⟨v1, run1, own1, g1⟩ := own0.update (int_keyed Try.underlying30) Try.underlying63 (by decide) (keyOf_int_mk Try.underlying30 (show (Lit.int .i64 0).wf = true by decide)) (plainElem_int Try.underlying3 (show (Lit.int .i64 0).wf = true by decide))
  have hB1 := below_grownM hB0 hB0.size (Nat.le_refl _) g1
  have D1 := cau_put D0 0 0
  clear own0 g1 hB0 D0
  obtain ⟨v2, run2, own2, g2⟩ := own1.update (int_keyed Try.underlying30) Try.underlying63 (by decide) (keyOf_int_mk Try.underlying30 (show (Lit.int .i64 50).wf = true by decide)) (plainElem_int Try.underlying3 (show (Lit.int .i64 1).wf = true by decide))
  have hB2 := below_grownM hB1 hB1.size (Nat.le_refl _) g2
  have D2 := cau_put D1 50 1
  clear own1 g2 hB1 D1
  obtain ⟨v3, run3, own3, g3⟩ := own2.update (int_keyed Try.underlying30) Try.underlying63 (by decide) (keyOf_int_mk Try.underlying30 (show (Lit.int .i64 60).wf = true by decide)) (plainElem_int Try.underlying3 (show (Lit.int .i64 1).wf = true by decide))
  have hB3 := below_grownM hB2 hB2.size (Nat.le_refl _) g3
  have D3 := cau_put D2 60 1
  clear own2 g3 hB2 D2
  obtain ⟨v4, run4, own4, g4⟩ := own3.update (int_keyed Try.underlying30) Try.underlying63 (by decide) (keyOf_int_mk Try.underlying30 (show (Lit.int .i64 1).wf = true by decide)) (plainElem_int Try.underlying3 (show (Lit.int .i64 1).wf = true by decide))
  have hB4 := below_grownM hB3 hB3.size (Nat.le_refl _) g4
  have D4 := cau_put D3 1 1
  clear own3 g4 hB3 D3
  obtain ⟨v5, run5, own5, g5⟩ := own4.update (int_keyed Try.underlying30) Try.underlying63 (by decide) (keyOf_int_mk Try.underlying30 (show (Lit.int .i64 51).wf = true by decide)) (plainElem_int Try.underlying3 (show (Lit.int .i64 2).wf = true by decide))
  have hB5 := below_grownM hB4 hB4.size (Nat.le_refl _) g5
  have D5 := cau_put D4 51 2
  clear own4 g5 hB4 D4
  obtain ⟨v6, run6, own6, g6⟩ := own5.update (int_keyed Try.underlying30) Try.underlying63 (by decide) (keyOf_int_mk Try.underlying30 (show (Lit.int .i64 120).wf = true by decide)) (plainElem_int Try.underlying3 (show (Lit.int .i64 3).wf = true by decide))
  have hB6 := below_grownM hB5 hB5.size (Nat.le_refl _) g6
  have D6 := cau_put D5 120 3
  clear own5 g6 hB5 D5
  obtain ⟨v7, run7, own7, g7⟩ := own6.update (int_keyed Try.underlying30) Try.underlying63 (by decide) (keyOf_int_mk Try.underlying30 (show (Lit.int .i64 121).wf = true by decide)) (plainElem_int Try.underlying3 (show (Lit.int .i64 4).wf = true by decide))
  have hB7 := below_grownM hB6 hB6.size (Nat.le_refl _) g7
  have D7 := cau_put D6 121 4
  clear own6 g7 hB6 D6
  obtain ⟨v8, run8, own8, g8⟩ := own7.update (int_keyed Try.underlying30) Try.underlying63 (by decide) (keyOf_int_mk Try.underlying30 (show (Lit.int .i64 122).wf = true by decide)) (plainElem_int Try.underlying3 (show (Lit.int .i64 5).wf = true by decide))
  have hB8 := below_grownM hB7 hB7.size (Nat.le_refl _) g8
  have D8 := cau_put D7 122 5
  clear own7 g8 hB7 D7
  obtain ⟨v9, run9, own9, g9⟩ := own8.update (int_keyed Try.underlying30) Try.underlying63 (by decide) (keyOf_int_mk Try.underlying30 (show (Lit.int .i64 123).wf = true by decide)) (plainElem_int Try.underlying3 (show (Lit.int .i64 6).wf = true by decide))
  have hB9 := below_grownM hB8 hB8.size (Nat.le_refl _) g9
  have D9 := cau_put D8 123 6
  clear own8 g9 hB8 D8
  obtain ⟨v10, run10, own10, g10⟩ := own9.update (int_keyed Try.underlying30) Try.underlying63 (by decide) (keyOf_int_mk Try.underlying30 (show (Lit.int .i64 124).wf = true by decide)) (plainElem_int Try.underlying3 (show (Lit.int .i64 7).wf = true by decide))
  have hB10 := below_grownM hB9 hB9.size (Nat.le_refl _) g10
  have D10 := cau_put D9 124 7
  clear own9 g10 hB9 D9
  obtain ⟨v11, run11, own11, g11⟩ := own10.update (int_keyed Try.underlying30) Try.underlying63 (by decide) (keyOf_int_mk Try.underlying30 (show (Lit.int .i64 125).wf = true by decide)) (plainElem_int Try.underlying3 (show (Lit.int .i64 8).wf = true by decide))
  have hB11 := below_grownM hB10 hB10.size (Nat.le_refl _) g11
  have D11 := cau_put D10 125 8
  clear own10 g11 hB10 D10
  have hmm := @run_makeMap Try.prog
  have HH := Lib.hid (And.intro own11 (And.intro D11 hB11))
  clear own11 D11 hB11
  go_enter Try.func17, Try.ntmps17
  go_wp2_with fail
  go_ret
  exact ⟨_, rfl, _, ⟨_, HH.out.1⟩, HH.out.2.1, HH.out.2.2⟩
set_option maxRecDepth 100000 in
set_option maxHeartbeats 3200000 in
theorem jcause_any (e0 : Int) (h0 : -9223372036854775808 ≤ e0) (h1 : e0 ≤ 9223372036854775807) (w : World) :
    Calls Try.prog 14 #[.int .i64 e0] w fun e w' => e = .returned (.int .i64 (causeI e0)) ∧ Below w.heap.size w w' := by
  have d := causes_any
  have hwf : (Lit.int .i64 e0).wf = true := WalkArith.wf_i64 ⟨h0, h1⟩
  have hc := cau_is e0
  generalize causeI e0 = cv at *
  go_enter Try.func14, Try.ntmps14
  go_wp2_with fail
  (with_reducible refine (d _).mono ?_)
  rintro e w' ⟨b, rfl, D, ⟨n, hown⟩, hD, hB⟩
  obtain ⟨_, hh, ha⟩ := hD
  replace hh := hh e0
  rcases hc with ⟨v, hv, rfl⟩ | ⟨hn, rfl⟩
  · have hk := Lib.hid (ha e0 _ hv)
    rw [hv] at hh
    replace hh : Maps.has D (.int .i64 e0) = true := hh
    clear ha hv
    go_wp2_with (at_lookup; refine wpList_lookup_own_ok_int _ rfl _ _ 63 rfl 30 3 .i64 (int_keyed Try.underlying30) Try.underlying63 Try.underlying3 (zero_intM _) b n _ rfl hown _ _ rfl (keyOf_int_mk Try.underlying30 hwf) ?_; intro c hat hwc; rw [hk.out _] at hat; simp only [DataW.lit.injEq, Lit.int.injEq, true_and] at hat; subst hat; rw [hh])
    go_ret
    exact ⟨rfl, hB⟩
  · rw [hn] at hh
    replace hh : Maps.has D (.int .i64 e0) = false := hh
    clear ha hn
    go_wp2_with (at_lookup; refine wpList_lookup_own_ok_int _ rfl _ _ 63 rfl 30 3 .i64 (int_keyed Try.underlying30) Try.underlying63 Try.underlying3 (zero_intM _) b n _ rfl hown _ _ rfl (keyOf_int_mk Try.underlying30 hwf) ?_; intro c hat hwc; rw [hh])
    go_ret
    exact ⟨rfl, hB⟩
end Go.Proofs.Ytjelbpibofngiaa.W
