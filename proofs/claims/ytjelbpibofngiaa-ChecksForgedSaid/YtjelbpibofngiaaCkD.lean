/- Layer 12's own code, walked: which test a packet fails first, and what is known behind it. -/
import Derived.Test.YtjelbpibofngiaaCkC
namespace Go.Proofs.Ytjelbpibofngiaa.W
open Go.RowKit Go.Sort
set_option linter.unusedVariables false
set_option linter.unusedSimpArgs false
theorem args_at (p : Pm) (a : Aq) (h : Hd) (w : World) : (((w.alloc (.cells (pmC p) 23)).alloc (.cells (aqC a) 26)).alloc (.cells (hdC h) 29)).heap[w.heap.size]? = some (.cells (pmC p) 23 (0, 0)) ∧ (((w.alloc (.cells (pmC p) 23)).alloc (.cells (aqC a) 26)).alloc (.cells (hdC h) 29)).heap[w.heap.size + 1]? = some (.cells (aqC a) 26 (0, 0)) ∧ (((w.alloc (.cells (pmC p) 23)).alloc (.cells (aqC a) 26)).alloc (.cells (hdC h) 29)).heap[w.heap.size + 1 + 1]? = some (.cells (hdC h) 29 (0, 0)) :=
  ⟨laid _ (laid _ (heap_alloc_new w _)), laid _ (by have := heap_alloc_new (w.alloc (.cells (pmC p) 23)) (.cells (aqC a) 26); simpa [World.size_alloc] using this), by have := heap_alloc_new ((w.alloc (.cells (pmC p) 23)).alloc (.cells (aqC a) 26)) (.cells (hdC h) 29); simpa [World.size_alloc] using this⟩
theorem quiet_world12 {w w' : World} (h : ∃ p : Regrown, w' = grow (redrawn w p.d) p.os) : Below w.heap.size w w' := by
  obtain ⟨p, rfl⟩ := h
  exact below_regrown w p.d p.os
set_option maxRecDepth 100000 in
set_option maxHeartbeats 3200000 in
theorem tfar_any (p : Pm) (a : Aq) (h : Hd) (t : h.Typed) (w : World) : Calls Try.prog 54 #[p.val, a.val, h.val] w fun e w' => e = .returned (.bool (decide (p.maxdist ≤ farI h ∨ 0 < dfI h.reft h.tx))) ∧ Below w.heap.size w w' := by
  have hB := args_below p a h w
  obtain ⟨zp, za, zh⟩ := args_at p a h w
  have c1 := jfar_any h t
  have c2 := df_any h.reft h.tx t.reft.1 t.reft.2 t.tx.1 t.tx.2
  unfold Pm.val Aq.val
  unfold Hd.val at *
  generalize farI h = f at *
  generalize dfI h.reft h.tx = d at *
  by_cases g : p.maxdist ≤ f
  · have hd : decide (p.maxdist ≤ f) = true := by simpa using g
    rw [show decide (p.maxdist ≤ f ∨ 0 < d) = true by simp [g]]
    go_enter Try.func54, Try.ntmps54
    go_upto_region 1 with fail
    generalize (((w.alloc (.cells (pmC p) 23)).alloc (.cells (aqC a) 26)).alloc (.cells (hdC h) 29)) = w1 at *
    obtain ⟨h0, h1, h2, h3, h4, h5, h6, h7, h8, h9, h10, h11, h12⟩ := thirteen_in zh
    obtain ⟨q0, q1, q2, q3, q4, q5, q6, q7, q8, q9, q10, q11⟩ := twelve_atK zp
    have k0 := cell_regrown h0
    have k1 := cell_regrown h1
    have k2 := cell_regrown h2
    have k3 := cell_regrown h3
    have k4 := cell_regrown h4
    have k5 := cell_regrown h5
    have k6 := cell_regrown h6
    have k7 := cell_regrown h7
    have k8 := cell_regrown h8
    have k9 := cell_regrown h9
    have k10 := cell_regrown h10
    have k11 := cell_regrown h11
    have k12 := cell_regrown h12
    have k13 := cell_regrown q5
    have d0 := fun d os => Calls.regrown_of (c1 (grow (redrawn w1 d) os))
    have d1 := fun d os => Calls.regrown_of (c2 (grow (redrawn w1 d) os))
    clear q0 q1 q2 q3 q4 q5 q6 q7 q8 q9 q10 q11 h0 h1 h2 h3 h4 h5 h6 h7 h8 h9 h10 h11 h12 zp za zh c1 c2
    refine wp_region_quiet_below (by kernel_rfl) (by kernel_rfl) ?_
    repeat (quiet_step (first | (with_reducible exact d0 _ _) | (with_reducible exact d1 _ _)))
    refine wpQuiet_nil ?_
    intro w2 hw
    replace hw := quiet_world12 hw
    clear d0 d1 k0 k1 k2 k3 k4 k5 k6 k7 k8 k9 k10 k11 k12 k13
    go_wp2_with fail
    go_ret
    exact ⟨by first | rfl | (simp; done) | (simp; omega), hB.trans (hw.mono hB.size)⟩
  · have hd : decide (p.maxdist ≤ f) = false := by simpa using g
    rw [show decide (p.maxdist ≤ f ∨ 0 < d) = decide (0 < d) by simp [g]]
    go_enter Try.func54, Try.ntmps54
    go_upto_region 1 with fail
    generalize (((w.alloc (.cells (pmC p) 23)).alloc (.cells (aqC a) 26)).alloc (.cells (hdC h) 29)) = w1 at *
    obtain ⟨h0, h1, h2, h3, h4, h5, h6, h7, h8, h9, h10, h11, h12⟩ := thirteen_in zh
    obtain ⟨q0, q1, q2, q3, q4, q5, q6, q7, q8, q9, q10, q11⟩ := twelve_atK zp
    have k0 := cell_regrown h0
    have k1 := cell_regrown h1
    have k2 := cell_regrown h2
    have k3 := cell_regrown h3
    have k4 := cell_regrown h4
    have k5 := cell_regrown h5
    have k6 := cell_regrown h6
    have k7 := cell_regrown h7
    have k8 := cell_regrown h8
    have k9 := cell_regrown h9
    have k10 := cell_regrown h10
    have k11 := cell_regrown h11
    have k12 := cell_regrown h12
    have k13 := cell_regrown q5
    have d0 := fun d os => Calls.regrown_of (c1 (grow (redrawn w1 d) os))
    have d1 := fun d os => Calls.regrown_of (c2 (grow (redrawn w1 d) os))
    clear q0 q1 q2 q3 q4 q5 q6 q7 q8 q9 q10 q11 h0 h1 h2 h3 h4 h5 h6 h7 h8 h9 h10 h11 h12 zp za zh c1 c2 g
    refine wp_region_quiet_below (by kernel_rfl) (by kernel_rfl) ?_
    repeat (quiet_step (first | (with_reducible exact d0 _ _) | (with_reducible exact d1 _ _)))
    refine wpQuiet_nil ?_
    intro w2 hw
    replace hw := quiet_world12 hw
    clear d0 d1 k0 k1 k2 k3 k4 k5 k6 k7 k8 k9 k10 k11 k12 k13
    go_wp2_with fail
    go_ret
    exact ⟨by first | rfl | (simp; done) | (simp; omega), hB.trans (hw.mono hB.size)⟩
theorem jset_any (e0 : Int) (w : World) : Calls Try.prog 13 #[.int .i64 e0] w fun e w' => e = .returned (.bool (decide (e0 = 0 ∨ e0 = 125 ∨ e0 = 123 ∨ e0 = 124))) ∧ w = w' := by
  by_cases h0 : e0 = 0
  · subst h0
    go_enter Try.func13, Try.ntmps13
    go_wp2_with fail
    go_ret
    exact ⟨rfl, rfl⟩
  · by_cases h1 : e0 = 125
    · subst h1
      go_enter Try.func13, Try.ntmps13
      go_wp2_with fail
      go_ret
      exact ⟨rfl, rfl⟩
    · by_cases h2 : e0 = 123
      · subst h2
        go_enter Try.func13, Try.ntmps13
        go_wp2_with fail
        go_ret
        exact ⟨rfl, rfl⟩
      · by_cases h3 : e0 = 124
        · subst h3
          go_enter Try.func13, Try.ntmps13
          go_wp2_with fail
          go_ret
          exact ⟨rfl, rfl⟩
        · rw [show decide (e0 = 0 ∨ e0 = 125 ∨ e0 = 123 ∨ e0 = 124) = false by simp [h0, h1, h2, h3]]
          have z0 : (e0 == 0) = false := beq_eq_false_iff_ne.2 h0
          have z1 : (e0 == 125) = false := beq_eq_false_iff_ne.2 h1
          have z2 : (e0 == 123) = false := beq_eq_false_iff_ne.2 h2
          have z3 : (e0 == 124) = false := beq_eq_false_iff_ne.2 h3
          go_enter Try.func13, Try.ntmps13
          go_wp2_with fail
          go_ret
          exact ⟨rfl, rfl⟩
/-- The tests, each with its error. -/
def jK (n : Nat) : Nat := [48, 49, 50, 51, 52, 53, 54].getD n 0
def jE (n : Nat) : Int := [51, 120, 121, 122, 125, 123, 124].getD n 0
def jB (p : Pm) (a : Aq) (h : Hd) (n : Nat) : Bool := [decide (h.ver ≠ a.ver), decide (h.mode ≠ 4), decide (h.tx ≠ 0 ∧ h.tx = a.last), decide (a.pend = 0 ∨ h.org ≠ a.pend ∨ h.tx = 0 ∨ h.rcv = 0), decide (kissI h.str h.ref ≠ 0), decide (h.leap = 3 ∨ 15 < h.str), decide (p.maxdist ≤ farI h ∨ 0 < dfI h.reft h.tx)].getD n false
def testsC : Array Value := #[.func (.func 48) #[] #[], .int .i64 51, .func (.func 49) #[] #[], .int .i64 120, .func (.func 50) #[] #[], .int .i64 121, .func (.func 51) #[] #[], .int .i64 122, .func (.func 52) #[] #[], .int .i64 125, .func (.func 53) #[] #[], .int .i64 123, .func (.func 54) #[] #[], .int .i64 124]
theorem info_test : (Try.prog.info? 59).map (·.size) = some 2 := by kernel_rfl
theorem tests_at (n : Nat) (hn : n < 7) (w : World) : (Instr.index 60 (.agg testsC) (.int .i64 n)).run Try.prog w = .ok (.agg #[.func (.func (jK n)) #[] #[], .int .i64 (jE n)]) w := by
  have hs := info_test
  cases hq : Try.prog.info? 59 with
  | none => simp [hq] at hs
  | some i =>
    have hi : i.size = 2 := by simpa [hq] using hs
    have hc : n = 0 ∨ n = 1 ∨ n = 2 ∨ n = 3 ∨ n = 4 ∨ n = 5 ∨ n = 6 := by omega
    rcases hc with rfl | rfl | rfl | rfl | rfl | rfl | rfl <;> simp [testsC, jK, jE, Instr.index, run_underlying Try.underlying60, run_underlying Try.underlying59, asIntOf, part, isAgg, sizeOf, typeInfo, hq, hi, go_sem]
theorem tests_enter (n : Nat) (hn : n < 7) (args : Array Value) (w : World) : (callFunc (jK n) args).run Try.prog w = .ok (.enter (jK n) args) w := by
  have hc : n = 0 ∨ n = 1 ∨ n = 2 ∨ n = 3 ∨ n = 4 ∨ n = 5 ∨ n = 6 := by omega
  rcases hc with rfl | rfl | rfl | rfl | rfl | rfl | rfl
  · exact Try.call48 _ _
  · exact Try.call49 _ _
  · exact Try.call50 _ _
  · exact Try.call51 _ _
  · exact Try.call52 _ _
  · exact Try.call53 _ _
  · exact Try.call54 _ _
theorem tests_fail (p : Pm) (a : Aq) (h : Hd) (t : h.Typed) (n : Nat) (hn : n < 7) (w : World) : Calls Try.prog (jK n) #[p.val, a.val, h.val] w fun e w' => e = .returned (.bool (jB p a h n)) ∧ Below w.heap.size w w' := by
  have hc : n = 0 ∨ n = 1 ∨ n = 2 ∨ n = 3 ∨ n = 4 ∨ n = 5 ∨ n = 6 := by omega
  rcases hc with rfl | rfl | rfl | rfl | rfl | rfl | rfl
  · exact tver_any p a h w
  · exact tmode_any p a h w
  · exact ttwice_any p a h w
  · exact tasked_any p a h w
  · exact tkiss_any p a h t w
  · exact tunset_any p a h w
  · exact tfar_any p a h t w
theorem judge_at {p : Pm} {a : Aq} {h : Hd} {n : Nat} (hn : n < 7) (hb : jB p a h n = true) (hl : ∀ m, m < n → jB p a h m = false) : judgeI p a h = jE n := by
  have g0 : 0 < n → ¬ (h.ver ≠ a.ver) := fun k => of_decide_eq_false (hl 0 k)
  have g1 : 1 < n → ¬ (h.mode ≠ 4) := fun k => of_decide_eq_false (hl 1 k)
  have g2 : 2 < n → ¬ (h.tx ≠ 0 ∧ h.tx = a.last) := fun k => of_decide_eq_false (hl 2 k)
  have g3 : 3 < n → ¬ (a.pend = 0 ∨ h.org ≠ a.pend ∨ h.tx = 0 ∨ h.rcv = 0) := fun k => of_decide_eq_false (hl 3 k)
  have g4 : 4 < n → ¬ (kissI h.str h.ref ≠ 0) := fun k => of_decide_eq_false (hl 4 k)
  have g5 : 5 < n → ¬ (h.leap = 3 ∨ 15 < h.str) := fun k => of_decide_eq_false (hl 5 k)
  clear hl
  have hc : n = 0 ∨ n = 1 ∨ n = 2 ∨ n = 3 ∨ n = 4 ∨ n = 5 ∨ n = 6 := by omega
  unfold judgeI
  rcases hc with rfl | rfl | rfl | rfl | rfl | rfl | rfl
  · have b : h.ver ≠ a.ver := of_decide_eq_true hb
    rw [if_pos b]
    rfl
  · have b : h.mode ≠ 4 := of_decide_eq_true hb
    rw [if_neg (g0 (by omega)), if_pos b]
    rfl
  · have b : h.tx ≠ 0 ∧ h.tx = a.last := of_decide_eq_true hb
    rw [if_neg (g0 (by omega)), if_neg (g1 (by omega)), if_pos b]
    rfl
  · have b : a.pend = 0 ∨ h.org ≠ a.pend ∨ h.tx = 0 ∨ h.rcv = 0 := of_decide_eq_true hb
    rw [if_neg (g0 (by omega)), if_neg (g1 (by omega)), if_neg (g2 (by omega)), if_pos b]
    rfl
  · have b : kissI h.str h.ref ≠ 0 := of_decide_eq_true hb
    rw [if_neg (g0 (by omega)), if_neg (g1 (by omega)), if_neg (g2 (by omega)), if_neg (g3 (by omega)), if_pos b]
    rfl
  · have b : h.leap = 3 ∨ 15 < h.str := of_decide_eq_true hb
    rw [if_neg (g0 (by omega)), if_neg (g1 (by omega)), if_neg (g2 (by omega)), if_neg (g3 (by omega)), if_neg (g4 (by omega)), if_pos b]
    rfl
  · have b : p.maxdist ≤ farI h ∨ 0 < dfI h.reft h.tx := of_decide_eq_true hb
    rw [if_neg (g0 (by omega)), if_neg (g1 (by omega)), if_neg (g2 (by omega)), if_neg (g3 (by omega)), if_neg (g4 (by omega)), if_neg (g5 (by omega)), if_pos b]
    rfl
theorem judge_end {p : Pm} {a : Aq} {h : Hd} (hl : ∀ m, m < 7 → jB p a h m = false) : judgeI p a h = 0 := by
  have g0 : ¬ (h.ver ≠ a.ver) := of_decide_eq_false (hl 0 (by omega))
  have g1 : ¬ (h.mode ≠ 4) := of_decide_eq_false (hl 1 (by omega))
  have g2 : ¬ (h.tx ≠ 0 ∧ h.tx = a.last) := of_decide_eq_false (hl 2 (by omega))
  have g3 : ¬ (a.pend = 0 ∨ h.org ≠ a.pend ∨ h.tx = 0 ∨ h.rcv = 0) := of_decide_eq_false (hl 3 (by omega))
  have g4 : ¬ (kissI h.str h.ref ≠ 0) := of_decide_eq_false (hl 4 (by omega))
  have g5 : ¬ (h.leap = 3 ∨ 15 < h.str) := of_decide_eq_false (hl 5 (by omega))
  have g6 : ¬ (p.maxdist ≤ farI h ∨ 0 < dfI h.reft h.tx) := of_decide_eq_false (hl 6 (by omega))
  unfold judgeI
  rw [if_neg g0, if_neg g1, if_neg g2, if_neg g3, if_neg g4, if_neg g5, if_neg g6]
set_option maxRecDepth 100000 in
set_option maxHeartbeats 1600000 in
theorem gtests_any (w : World) : Calls Try.prog 16 #[] w fun e w' => e = .returned (.agg testsC) ∧ Below w.heap.size w w' := by
  go_enter Try.func16, Try.ntmps16
  go_wp2_with fail
  refine bodyPost_ret (v := .agg testsC) ?_ rfl ⟨rfl, by repeat' (first | (with_reducible exact Below.refl _ _) | (with_reducible assumption) | (with_reducible refine below_drewN ?_ _) | (with_reducible refine Below.drew ?_) | (with_reducible refine Below.setCell ?_ ?_ _) | (with_reducible refine Below.alloc ?_ ?_ _) | (simp; done) | (simp; omega) | omega)⟩
  simp [results, Try.results16, go_sem, testsC]
theorem two_in12 {w : World} {p : Nat} {a0 a1 : Value} {t : TypeId} (h : w.heap[p]? = some (.cells #[a0, a1] t (0, 0))) : w.cell? ⟨p, 0, none⟩ = some a0 ∧ w.cell? ⟨p, 1, none⟩ = some a1 := by
  refine ⟨?_, ?_⟩ <;> simp [World.cell?, h]
set_option maxRecDepth 100000 in
set_option maxHeartbeats 6400000 in
theorem jjudge_any (p : Pm) (tp : p.Typed) (a : Aq) (ta : a.Typed) (h : Hd) (t : h.Typed) (w : World) :
    Calls Try.prog 12 #[p.val, a.val, h.val] w fun e w' => e = .returned (.int .i64 (judgeI p a h)) ∧ Below w.heap.size w w' := by
  have hB := args_below p a h w
  obtain ⟨zp, za, zh⟩ := args_at p a h w
  have R := Lib.hid (fun n hn => tests_fail p a h t n hn)
  have X := Lib.hid tests_at
  have E := Lib.hid tests_enter
  have J := Lib.hid (And.intro (fun n hn hb hl => @judge_at p a h n hn hb hl) (fun hl => @judge_end p a h hl))
  have c0 := gtests_any
  unfold Pm.val Aq.val Hd.val at *
  generalize testsC = C at *
  generalize judgeI p a h = r at *
  go_enter Try.func12, Try.ntmps12
  go_upto_region 1 with fail
  generalize (((w.alloc (.cells (pmC p) 23)).alloc (.cells (aqC a) 26)).alloc (.cells (hdC h) 29)) = w1 at *
  go_wp2_with fail
  (with_reducible refine (c0 _).mono ?_)
  rintro e w2 ⟨rfl, hb2⟩
  have zp := kept zp hb2
  have za := kept za hb2
  have zh := kept zh hb2
  have hB := hB.trans (hb2.mono hB.size)
  have H := Lib.hid (And.intro zp (And.intro za (And.intro zh hB)))
  clear zp za zh hB hb2 c0
  go_wp2_with fail
  go_loopw [10] (fun i wr => ∃ n : Nat, n ≤ 7 ∧ i = .int .i64 (n : Int) ∧ (∀ m, m < n → jB p a h m = false) ∧ wr.heap[w.heap.size]? = some (.cells (pmC p) 23 (0, 0)) ∧ wr.heap[w.heap.size + 1]? = some (.cells (aqC a) 26 (0, 0)) ∧ wr.heap[w.heap.size + 1 + 1]? = some (.cells (hdC h) 29 (0, 0)) ∧ Below w.heap.size w wr) (fun i _ => 7 - (intOf i).toNat)
  case atStart => exact ⟨0, Nat.zero_le _, rfl, fun m hm => absurd hm (Nat.not_lt_zero _), H.out.1, H.out.2.1, H.out.2.2.1, H.out.2.2.2⟩
  case round =>
    obtain ⟨n, hn, rfl, hl, zp, za, zh, hB⟩ := hrel
    have L := Lib.hid hl
    clear hl
    by_cases hlt : n < 7
    · have i1 : (n : Int) < 7 := by omega
      have xx := X.out n hlt
      have ee := E.out n hlt
      have yy := R.out n hlt
      have JJ := Lib.hid (fun hb => J.out.1 n hlt hb L.out)
      obtain ⟨h0, h1, h2, h3, h4, h5, h6, h7, h8, h9, h10, h11, h12⟩ := thirteen_in zh
      obtain ⟨q0, q1, q2, q3, q4, q5, q6, q7, q8, q9, q10, q11⟩ := twelve_atK zp
      obtain ⟨s0, s1, s2⟩ := three_in za
      have lp := (Array.getElem?_eq_some_iff.1 zp).1
      have la := (Array.getElem?_eq_some_iff.1 za).1
      have lh := (Array.getElem?_eq_some_iff.1 zh).1
      have HB := Lib.hid (And.intro zp (And.intro za (And.intro zh hB)))
      have lz := hB.size
      clear zp za zh hB
      generalize jK n = k at *
      generalize jE n = er at *
      cases hb : jB p a h n with
      | true =>
        rw [hb] at yy
        have jj := JJ.out hb
        subst jj
        clear JJ hb
        go_wp2_with fail
        (with_reducible refine (yy _).mono ?_)
        rintro e w3 ⟨rfl, hb3⟩
        have hA := HB.out.2.2.2.alloc lz (.cells #[.func (.func k) #[] #[], .int .i64 r] 59)
        have BB := Lib.hid (hA.trans (hb3.mono hA.size))
        have zx := kept (heap_alloc_new wr (.cells #[.func (.func k) #[] #[], .int .i64 r] 59)) hb3
        obtain ⟨x0, x1⟩ := two_in12 zx
        clear zx hb3 hA xx ee yy h0 h1 h2 h3 h4 h5 h6 h7 h8 h9 h10 h11 h12 q0 q1 q2 q3 q4 q5 q6 q7 q8 q9 q10 q11 s0 s1 s2
        go_wp2_with fail
        go_ret
        exact ⟨rfl, BB.out⟩
      | false =>
        rw [hb] at yy
        clear JJ
        have HL := Lib.hid hb
        clear hb
        go_wp2_with fail
        (with_reducible refine (yy _).mono ?_)
        rintro e w3 ⟨rfl, hb3⟩
        have la := (Below.refl _ wr).alloc (Nat.le_refl _) (.cells #[.func (.func k) #[] #[], .int .i64 er] 59)
        have lb := la.trans (hb3.mono la.size)
        have KK := Lib.hid (And.intro (kept HB.out.1 lb) (And.intro (kept HB.out.2.1 lb) (And.intro (kept HB.out.2.2.1 lb) (HB.out.2.2.2.trans (lb.mono HB.out.2.2.2.size)))))
        clear la lb hb3 xx ee yy h0 h1 h2 h3 h4 h5 h6 h7 h8 h9 h10 h11 h12 q0 q1 q2 q3 q4 q5 q6 q7 q8 q9 q10 q11 s0 s1 s2
        go_wp2_with fail
        go_roundw
        case rel =>
          refine ⟨n + 1, by omega, by go_num, fun m hm => ?_, KK.out⟩
          by_cases hmn : m = n
          · subst hmn; exact HL.out
          · exact L.out m (by omega)
        case measure => simp [intOf]; omega
    · obtain rfl : n = 7 := by omega
      have hr := J.out.2 L.out
      subst hr
      clear zp za zh
      have HB := Lib.hid hB
      clear hB
      go_wp2_with fail
      go_ret
      exact ⟨rfl, HB.out⟩
end Go.Proofs.Ytjelbpibofngiaa.W
