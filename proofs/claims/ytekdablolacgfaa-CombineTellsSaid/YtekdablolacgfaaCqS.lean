import Derived.Test.YtekdablolacgfaaCqI
import Derived.Test.YtekdablolacgfaaRows
import Derived.Test.YtekdablolacgfaaQtB
import Derived.ChangeArms
import Derived.WalkSpells
import Derived.WalkLawsBesides
import Derived.Deep.DeepCutAuto
import Derived.Deep.RegionHeld3
import Derived.OpenShut
import Derived.ChangeOld
import Derived.ShutString
import Derived.WideShapes
import Derived.Handy
import Derived.WalkKit
import Derived.Lib.Hide
import Derived.BigQuiet
import Derived.Test.YtekdablolacgfaaFixE
import Derived.Test.YtekdablolacgfaaFixB
import Derived.Test.YtekdablolacgfaaRowS
import Derived.Test.YtekdablolacgfaaHdZ
import Derived.Deep.AppendLies
/- Layer 18's laws: numbers that are written down as a list; that two tell their middle. -/
namespace Go.Proofs.Ytekdablolacgfaa.W
open Go.RowKit Go.Sort Go.ChangeShapes Go.WideShapes
set_option linter.unusedVariables false
set_option linter.unusedSimpArgs false
/-- Two numbers in a block of their own are a list that is read. -/
theorem two_lit {w : World} {b : Nat} {x y : Int} {t : TypeId} (h : w.heap[b]? = some (.cells #[.int .i64 x, .int .i64 y] t (0, 0))) : SlAt (fun c => c = b) 1 (oneE .i64) w (.slice (some ⟨b, 0, none⟩) 2 2) [x, y] := by
  refine .inr ⟨b, 0, 2, rfl, rfl, fun i z hz j u hu => ?_⟩
  have hj : j = 0 := by have := (List.getElem?_eq_some_iff.1 hu).1; simp [oneE] at this; exact this
  subst hj
  simp [oneE] at hu
  subst hu
  match i, hz with
  | 0, hz => simp at hz; subst hz; simp [World.cell?, h]
  | 1, hz => simp at hz; subst hz; simp [World.cell?, h]
theorem two_in18 {w : World} {b : Nat} {x y : Value} {t : TypeId} (h : w.heap[b]? = some (.cells #[x, y] t (0, 0))) : w.cell? ⟨b, 0, none⟩ = some x ∧ w.cell? ⟨b, 1, none⟩ = some y := by constructor <;> simp [World.cell?, h]
theorem shown_mean : meanC [0, 42949672960] [4294967296, 4294967296] 0 85899345920 = 21474836480 := by decide +kernel
theorem shown_wt : wtI 4294967296 = 4294967296 := by decide +kernel
theorem shown_lead : leadI [] [] 0 = -1 := by decide +kernel
set_option maxRecDepth 100000 in
set_option maxHeartbeats 6400000 in
theorem shown18_any (w : World) : Calls Try.prog 7 #[] w fun e w' => e = .returned (.bool true) ∧ Below w.heap.size w w' := by
  have c2 := cwt_any 4294967296 (by decide)
  have c3 := fun w => cchoose_any [] (by simp) (by simp) [] (by simp) (by simp) 0 (by decide) (F := fun _ => False) (G := fun _ => False) (vl := .slice none 0 0) (vk := .slice none 0 0) w (.inl ⟨none, 0, rfl, fun _ => rfl, rfl⟩) (.inl ⟨none, 0, rfl, fun _ => rfl, rfl⟩) (fun _ h => h.elim) (fun _ h => h.elim)
  rw [shown_wt] at c2
  rw [shown_lead] at c3
  have hA := (Below.refl w.heap.size w).alloc (Nat.le_refl _) (.cells #[.int .i64 0, .int .i64 42949672960] 2)
  have hB := hA.alloc hA.size (.cells #[.int .i64 4294967296, .int .i64 4294967296] 2)
  have s1 := two_lit (heap_first w (.cells #[.int .i64 0, .int .i64 42949672960] 2) (.cells #[.int .i64 4294967296, .int .i64 4294967296] 2))
  have s2 := two_lit (heap_second w (.cells #[.int .i64 0, .int .i64 42949672960] 2) (.cells #[.int .i64 4294967296, .int .i64 4294967296] 2))
  have c1 := cmean18_any [0, 42949672960] [4294967296, 4294967296] (by decide) (by decide) (by decide) (by decide) 0 85899345920 (by decide) (by decide) _ s1 s2 (fun b e => by subst e; simp; omega) (fun b e => by subst e; simp)
  rw [shown_mean] at c1
  clear s1 s2 hA
  go_enter Try.func7, Try.ntmps7
  go_wp2_with fail
  (with_reducible refine c1.mono ?_)
  rintro e w2 ⟨rfl, h2⟩
  have B2 := hB.trans (h2.mono hB.size)
  clear hB h2 c1
  go_wp2_with fail
  (with_reducible refine (c2 _).mono ?_)
  rintro e w3 ⟨rfl, h3⟩
  replace B2 := B2.trans (h3.mono B2.size)
  clear h3
  go_wp2_with fail
  (with_reducible refine (c3 _).mono ?_)
  rintro e w4 ⟨rfl, h4⟩
  replace B2 := B2.trans (h4.mono B2.size)
  clear h4
  have BB := Lib.hid B2
  clear B2
  go_wp2_with fail
  go_ret
  exact ⟨rfl, BB.out⟩
end Go.Proofs.Ytekdablolacgfaa.W

/- Layer 18's laws: the document's weights, means and jitters. -/
namespace Go.Proofs.Ytekdablolacgfaa.W
open Go.RowKit Go.Sort Go.ChangeShapes Go.WideShapes
set_option linter.unusedVariables false
set_option linter.unusedSimpArgs false
set_option maxRecDepth 100000 in
set_option maxHeartbeats 3200000 in
theorem rwt18_any (d : Int) (d0 : I64 d) (w : World) : Calls Try.prog 13 #[.int .i64 d] w fun e w' => e = .returned (.int .i64 (wtI d)) ∧ w = w' := by
  obtain ⟨m, hm⟩ : ∃ m, max d 21474836 = m := ⟨_, rfl⟩
  have f1 := fun ts t W => run_max18 .i64 d 21474836 m hm ts t W
  have hv : wtI d = max 1 (divI 4294967296 m) := by unfold wtI; rw [hm]
  have f2 := fun ts t W => run_max18 .i64 1 (divI 4294967296 m) (wtI d) hv.symm ts t W
  unfold I64 at d0
  have c := rfdiv_any 4294967296 m (by decide) (by decide) (by omega) (by omega)
  generalize divI 4294967296 m = x at *
  generalize wtI d = y at *
  clear hm hv
  go_enter Try.func13, Try.ntmps13
  go_wp2_with fail
  (with_reducible refine (c _).mono ?_)
  rintro e w1 ⟨rfl, rfl⟩
  go_wp2_with fail
  go_ret
  exact ⟨rfl, rfl⟩
set_option maxRecDepth 100000 in
set_option maxHeartbeats 12800000 in
theorem rmean18_any (o d : List Int) (ho : o.length ≤ 60) (hd : d.length ≤ 60) (tx : ∀ x ∈ o, -9223372036854775808 ≤ x ∧ x ≤ 9223372036854775807) (td : ∀ x ∈ d, -9223372036854775808 ≤ x ∧ x ≤ 9223372036854775807) (lo hi : Int) (l0 : -9223372036854775808 ≤ lo ∧ lo ≤ 9223372036854775807) (h0 : -9223372036854775808 ≤ hi ∧ hi ≤ 9223372036854775807) {F G : Nat → Prop} {vo vd : Value} (w : World) (so : SlAt F 1 (oneE .i64) w vo o) (sd : SlAt G 1 (oneE .i64) w vd d) (hF : ∀ b, F b → b < w.heap.size) (hG : ∀ b, G b → b < w.heap.size) :
    Calls Try.prog 9 #[vo, vd, .agg #[.int .i64 lo, .int .i64 hi]] w fun e w' => e = .returned (.int .i64 (meanC o d lo hi)) ∧ Below w.heap.size w w' := by
  obtain ⟨xo, co, rfl⟩ := so.slice
  obtain ⟨xd, cd, rfl⟩ := sd.slice
  have hx := heap_alloc_new w (.cells #[.int .i64 lo, .int .i64 hi] 24)
  have hB := (Below.refl w.heap.size w).alloc (Nat.le_refl _) (.cells #[.int .i64 lo, .int .i64 hi] 24)
  have hz := World.size_alloc w (.cells #[.int .i64 lo, .int .i64 hi] 24)
  have SO := Lib.hid (And.intro so sd)
  have HF := Lib.hid (And.intro hF hG)
  obtain ⟨mn, hmn⟩ : ∃ mn, min (o.length : Int) (d.length : Int) = mn := ⟨_, rfl⟩
  have f1 := fun ts t W => run_min18 .i64 (o.length : Int) (d.length : Int) mn hmn ts t W
  have hlc : mn = (lenC o d : Int) := by unfold lenC; omega
  have X := Lib.hid (And.intro hx (And.intro hB hz))
  clear so sd hF hG hx hB hz hmn
  go_enter Try.func9, Try.ntmps9
  go_wp2_with fail
  generalize w.alloc (.cells #[.int .i64 lo, .int .i64 hi] 24) = w0 at *
  go_loopw [7, 8, 9] (fun s a i wr => ∃ q : Nat, q ≤ lenC o d ∧ i = .int .i64 (q : Int) ∧ s = .int .i64 (sumO o d q) ∧ a = .int .i64 (sumW d q) ∧ Below w0.heap.size w0 wr) (fun _ _ i _ => lenC o d - (intOf i).toNat)
  case atStart => exact ⟨0, Nat.zero_le _, rfl, rfl, rfl, Below.refl _ _⟩
  case round =>
    obtain ⟨q, hq, rfl, rfl, rfl, hB⟩ := hrel
    obtain ⟨hx, hB0, hz⟩ := X.out
    have hBw := hB0.trans (hB.mono (by omega))
    have hlo : lenC o d ≤ o.length ∧ lenC o d ≤ d.length := by unfold lenC; omega
    have rO := sumO_i64 o d q
    have rW := sumW_i64 d q
    unfold I64 at rO rW
    by_cases hlt : q < lenC o d
    · have i1 : (q : Int) < mn := by omega
      obtain ⟨b, off, rfl, x0⟩ := num_at18 SO.out.1 HF.out.1 hBw (q := q) (by omega)
      obtain ⟨b', off', rfl, y0⟩ := num_at18 SO.out.2 HF.out.2 hBw (q := q) (by omega)
      have j1 : (q : Int) < o.length := by omega
      have j2 : (q : Int) < d.length := by omega
      have j0 : (0 : Int) ≤ q := by omega
      have t1 : I64 (o.getD q 0) := tx _ (getD_in (by omega))
      have t2 : I64 (d.getD q 0) := td _ (getD_in (by omega))
      have c1 := rwt18_any _ t2
      have t3 := wt_range (d.getD q 0) t2.2
      unfold I64 at t1 t2
      have c2 := rfmul_any (o.getD q 0) (wtI (d.getD q 0)) t1.1 t1.2 (by omega) (by omega)
      have t4 := mul_i64 (o.getD q 0) (wtI (d.getD q 0))
      unfold I64 at t4
      have c3 := radd_any (sumO o d q) (mulI (o.getD q 0) (wtI (d.getD q 0))) rO.1 rO.2 t4.1 t4.2
      have c4 := radd_any (sumW d q) (wtI (d.getD q 0)) rW.1 rW.2 (by omega) (by omega)
      have e1 : addI (sumO o d q) (mulI (o.getD q 0) (wtI (d.getD q 0))) = sumO o d (q + 1) := rfl
      have e2 : addI (sumW d q) (wtI (d.getD q 0)) = sumW d (q + 1) := rfl
      rw [e1] at c3
      rw [e2] at c4
      have BB := Lib.hid hB
      obtain ⟨O1, hO1⟩ : ∃ x, sumO o d (q + 1) = x := ⟨_, rfl⟩
      obtain ⟨W1, hW1⟩ : ∃ x, sumW d (q + 1) = x := ⟨_, rfl⟩
      rw [hO1] at c3
      rw [hW1] at c4
      have HE := Lib.hid (And.intro (congrArg (Value.int .i64) hO1.symm) (congrArg (Value.int .i64) hW1.symm))
      generalize sumO o d q = O0 at *
      generalize sumW d q = W0 at *
      generalize mulI (o.getD q 0) (wtI (d.getD q 0)) = M0 at *
      generalize wtI (d.getD q 0) = V0 at *
      generalize o.getD q 0 = A0 at *
      generalize d.getD q 0 = D0 at *
      clear e1 e2 hB hBw hx hB0 hO1 hW1
      go_wp2_with fail
      go_quiet (first | exact quiet_eq (c1 _) | exact quiet_eq (c2 _) | exact quiet_eq (c3 _))
      have y1 : (wr.drewN nq).cell? ⟨b', off' + q, none⟩ = some (.int .i64 D0) := y0
      have BD := Lib.hid (below_drewN BB.out nq)
      clear x0 y0 BB
      go_wp2_with fail
      (with_reducible refine (c1 _).mono ?_)
      rintro e w1 ⟨rfl, rfl⟩
      go_wp2_with fail
      (with_reducible refine (c4 _).mono ?_)
      rintro e w2 ⟨rfl, rfl⟩
      clear c1 c2 c3 c4 y1
      go_wp2_with fail
      go_roundw
      case rel => exact ⟨q + 1, by omega, by go_num, HE.out.1, HE.out.2, BD.out⟩
      case measure => simp [intOf]; omega
    · have eq : q = lenC o d := by omega
      subst eq
      have i1 : ¬ mn < mn := by omega
      have t5 := div_i64 (sumO o d (lenC o d)) (sumW d (lenC o d))
      unfold I64 at t5
      have c5 := rfdiv_any (sumO o d (lenC o d)) (sumW d (lenC o d)) rO.1 rO.2 rW.1 rW.2
      have c6 := rclamp_any (divI (sumO o d (lenC o d)) (sumW d (lenC o d))) lo hi t5.1 t5.2 l0.1 l0.2 h0.1 h0.2
      have hv : clampI (divI (sumO o d (lenC o d)) (sumW d (lenC o d))) lo hi = meanC o d lo hi := rfl
      rw [hv] at c6
      obtain ⟨s0, s1⟩ := two_in18 ((hB.block _ (by omega)).trans hx)
      have BB := Lib.hid hBw
      clear hx hB0 hB hBw hv rO rW t5
      rw [← hlc]
      go_wp2_with fail
      go_quiet (first | exact quiet_eq (c5 _) | exact quiet_eq (c6 _))
      have BD := Lib.hid (below_drewN BB.out nq)
      clear s0 s1 BB c5 c6
      go_wp2_with fail
      go_ret
      exact ⟨rfl, BD.out⟩
set_option maxRecDepth 100000 in
set_option maxHeartbeats 12800000 in
theorem rjit18_any (o d : List Int) (ho : o.length ≤ 60) (hd : d.length ≤ 60) (tx : ∀ x ∈ o, -9223372036854775808 ≤ x ∧ x ≤ 9223372036854775807) (td : ∀ x ∈ d, -9223372036854775808 ≤ x ∧ x ≤ 9223372036854775807) (ab : Int) (l0 : -9223372036854775808 ≤ ab ∧ ab ≤ 9223372036854775807) {F G : Nat → Prop} {vo vd : Value} (w : World) (so : SlAt F 1 (oneE .i64) w vo o) (sd : SlAt G 1 (oneE .i64) w vd d) (hF : ∀ b, F b → b < w.heap.size) (hG : ∀ b, G b → b < w.heap.size) :
    Calls Try.prog 11 #[vo, vd, .int .i64 ab] w fun e w' => e = .returned (.int .i64 (jitC o d ab)) ∧ Below w.heap.size w w' := by
  obtain ⟨xo, co, rfl⟩ := so.slice
  obtain ⟨xd, cd, rfl⟩ := sd.slice
  have SO := Lib.hid (And.intro so sd)
  have HF := Lib.hid (And.intro hF hG)
  obtain ⟨mn, hmn⟩ : ∃ mn, min (o.length : Int) (d.length : Int) = mn := ⟨_, rfl⟩
  have f1 := fun ts t W => run_min18 .i64 (o.length : Int) (d.length : Int) mn hmn ts t W
  have hlc : mn = (lenC o d : Int) := by unfold lenC; omega
  clear so sd hF hG hmn
  go_enter Try.func11, Try.ntmps11
  go_wp2_with fail
  go_loopw [7, 8, 9] (fun s a i wr => ∃ q : Nat, q ≤ lenC o d ∧ i = .int .i64 (q : Int) ∧ s = .int .i64 (sumJ o d ab q) ∧ a = .int .i64 (sumW d q) ∧ Below w.heap.size w wr) (fun _ _ i _ => lenC o d - (intOf i).toNat)
  case atStart => exact ⟨0, Nat.zero_le _, rfl, rfl, rfl, Below.refl _ _⟩
  case round =>
    obtain ⟨q, hq, rfl, rfl, rfl, hB⟩ := hrel
    have hlo : lenC o d ≤ o.length ∧ lenC o d ≤ d.length := by unfold lenC; omega
    have rO := sumJ_i64 o d ab q
    have rW := sumW_i64 d q
    unfold I64 at rO rW
    by_cases hlt : q < lenC o d
    · have i1 : (q : Int) < mn := by omega
      obtain ⟨b, off, rfl, x0⟩ := num_at18 SO.out.1 HF.out.1 hB (q := q) (by omega)
      obtain ⟨b', off', rfl, y0⟩ := num_at18 SO.out.2 HF.out.2 hB (q := q) (by omega)
      have j1 : (q : Int) < o.length := by omega
      have j2 : (q : Int) < d.length := by omega
      have j0 : (0 : Int) ≤ q := by omega
      have t1 : I64 (o.getD q 0) := tx _ (getD_in (by omega))
      have t2 : I64 (d.getD q 0) := td _ (getD_in (by omega))
      have c1 := rwt18_any _ t2
      have t3 := wt_range (d.getD q 0) t2.2
      unfold I64 at t1 t2
      have c2 := rsub_any (o.getD q 0) ab t1.1 t1.2 l0.1 l0.2
      have t4 := sub_i64 (o.getD q 0) ab
      unfold I64 at t4
      have c3 := rfmul_any (subI (o.getD q 0) ab) (subI (o.getD q 0) ab) t4.1 t4.2 t4.1 t4.2
      have t5 := mul_i64 (subI (o.getD q 0) ab) (subI (o.getD q 0) ab)
      unfold I64 at t5
      have c4 := rfmul_any (wtI (d.getD q 0)) (mulI (subI (o.getD q 0) ab) (subI (o.getD q 0) ab)) (by omega) (by omega) t5.1 t5.2
      have t6 := mul_i64 (wtI (d.getD q 0)) (mulI (subI (o.getD q 0) ab) (subI (o.getD q 0) ab))
      unfold I64 at t6
      have c5 := radd_any (sumJ o d ab q) (mulI (wtI (d.getD q 0)) (mulI (subI (o.getD q 0) ab) (subI (o.getD q 0) ab))) rO.1 rO.2 t6.1 t6.2
      have c6 := radd_any (sumW d q) (wtI (d.getD q 0)) rW.1 rW.2 (by omega) (by omega)
      have e1 : addI (sumJ o d ab q) (mulI (wtI (d.getD q 0)) (mulI (subI (o.getD q 0) ab) (subI (o.getD q 0) ab))) = sumJ o d ab (q + 1) := rfl
      have e2 : addI (sumW d q) (wtI (d.getD q 0)) = sumW d (q + 1) := rfl
      rw [e1] at c5
      rw [e2] at c6
      have BB := Lib.hid hB
      obtain ⟨O1, hO1⟩ : ∃ x, sumJ o d ab (q + 1) = x := ⟨_, rfl⟩
      obtain ⟨W1, hW1⟩ : ∃ x, sumW d (q + 1) = x := ⟨_, rfl⟩
      rw [hO1] at c5
      rw [hW1] at c6
      have HE := Lib.hid (And.intro (congrArg (Value.int .i64) hO1.symm) (congrArg (Value.int .i64) hW1.symm))
      generalize sumJ o d ab q = O0 at *
      generalize sumW d q = W0 at *
      generalize mulI (wtI (d.getD q 0)) (mulI (subI (o.getD q 0) ab) (subI (o.getD q 0) ab)) = M0 at *
      generalize mulI (subI (o.getD q 0) ab) (subI (o.getD q 0) ab) = M1 at *
      generalize subI (o.getD q 0) ab = M2 at *
      generalize wtI (d.getD q 0) = V0 at *
      generalize o.getD q 0 = A0 at *
      generalize d.getD q 0 = D0 at *
      clear e1 e2 hB hO1 hW1
      go_wp2_with fail
      (with_reducible refine (c2 _).mono ?_)
      rintro e w1 ⟨rfl, rfl⟩
      go_wp2_with fail
      (with_reducible refine (c1 _).mono ?_)
      rintro e w2 ⟨rfl, rfl⟩
      go_wp2_with fail
      (with_reducible refine (c3 _).mono ?_)
      rintro e w3 ⟨rfl, rfl⟩
      go_wp2_with fail
      (with_reducible refine (c4 _).mono ?_)
      rintro e w4 ⟨rfl, rfl⟩
      go_wp2_with fail
      (with_reducible refine (c5 _).mono ?_)
      rintro e w5 ⟨rfl, rfl⟩
      go_wp2_with fail
      (with_reducible refine (c1 _).mono ?_)
      rintro e w6 ⟨rfl, rfl⟩
      go_wp2_with fail
      (with_reducible refine (c6 _).mono ?_)
      rintro e w7 ⟨rfl, rfl⟩
      clear c1 c2 c3 c4 c5 c6
      go_wp2_with fail
      go_roundw
      case rel => exact ⟨q + 1, by omega, by go_num, HE.out.1, HE.out.2, BB.out⟩
      case measure => simp [intOf]; omega
    · have eq : q = lenC o d := by omega
      subst eq
      have i1 : ¬ mn < mn := by omega
      have t5 := div_i64 (sumJ o d ab (lenC o d)) (sumW d (lenC o d))
      unfold I64 at t5
      have c5 := rfdiv_any (sumJ o d ab (lenC o d)) (sumW d (lenC o d)) rO.1 rO.2 rW.1 rW.2
      have c6 := rfsqrt_any (divI (sumJ o d ab (lenC o d)) (sumW d (lenC o d))) t5.1 t5.2
      have hv : rootI (divI (sumJ o d ab (lenC o d)) (sumW d (lenC o d))) = jitC o d ab := rfl
      rw [hv] at c6
      have BB := Lib.hid hB
      clear hB hv rO rW t5
      rw [← hlc]
      go_wp2_with fail
      (with_reducible refine (c5 _).mono ?_)
      rintro e w1 ⟨rfl, rfl⟩
      go_wp2_with fail
      (with_reducible refine (c6 _).mono ?_)
      rintro e w2 ⟨rfl, rfl⟩
      clear c5 c6
      go_wp2_with fail
      go_ret
      exact ⟨rfl, BB.out⟩
/-- A span that came in. -/
structure Sn where
  lo : Int
  hi : Int
def Sn.val (s : Sn) : Value := .agg #[.int .i64 s.lo, .int .i64 s.hi]
structure Sn.Typed (s : Sn) : Prop where
  lo : -9223372036854775808 ≤ s.lo ∧ s.lo ≤ 9223372036854775807
  hi : -9223372036854775808 ≤ s.hi ∧ s.hi ≤ 9223372036854775807
set_option maxRecDepth 100000 in
theorem open_sp {H : Type} {enc : TypeId × Value → H} {w : World} {base : Nat} {spare : Nat → Bool} {held : Bool} {r : Reach} {b0 : Nat} {v : Value} {d : DataW H} {p : List MemPlace}
    (hv : Value.okWide Try.prog w r b0 24 v) (h : DataW.Trod enc Try.prog w base spare held 24 v d p) : ∃ h : Sn, v = h.val ∧ h.Typed := by
  obtain ⟨zs, hl, rfl, hw⟩ := open_int_fields [.i64, .i64] Try.underlying24 (by kernel_rfl) (by kernel_rfl) rfl (by
    intro i f hf
    match i, hf with
    | 0, hf => simp at hf; subst hf; exact ⟨.i64, rfl, Try.underlying2⟩
    | 1, hf => simp at hf; subst hf; exact ⟨.i64, rfl, Try.underlying2⟩
    | n + 2, hf => simp at hf) hv h
  match zs, hl with
  | [po, cn], _ =>
    refine ⟨⟨po, cn⟩, rfl, ?_⟩
    constructor
    · have := bounds_i64 (hw 0 _ _ rfl rfl)
      dsimp only
      omega
    · have := bounds_i64 (hw 1 _ _ rfl rfl)
      dsimp only
      omega
end Go.Proofs.Ytekdablolacgfaa.W

/- Layer 18's laws: which one leads, by the document; servers turned into the document's. -/
namespace Go.Proofs.Ytekdablolacgfaa.W
open Go.RowKit Go.Sort
set_option linter.unusedVariables false
set_option linter.unusedSimpArgs false
set_option maxRecDepth 100000 in
set_option maxHeartbeats 12800000 in
theorem rchoose18_any (l : List Sv) (hl : l.length ≤ 60) (kept : List Int) (hk : kept.length ≤ 60) (old : Int) {F G : Nat → Prop} {vl vk : Value} (w : World) (sl : SlAt F 11 svC w vl l) (sk : SlAt G 1 (oneE .i64) w vk kept) (hF : ∀ b, F b → b < w.heap.size) (hG : ∀ b, G b → b < w.heap.size) :
    Calls Try.prog 18 #[vl, vk, .int .i64 old] w fun e w' => e = .returned (.int .i64 (leadI l kept old)) ∧ Below w.heap.size w w' := by
  obtain ⟨xl, cl, rfl⟩ := sl.slice
  obtain ⟨xk, ck, rfl⟩ := sk.slice
  have SO := Lib.hid (And.intro sl sk)
  have HF := Lib.hid (And.intro hF hG)
  have hR := Below.refl w.heap.size w
  have hv : leadI l kept old = chooseI (fun k => (svAt l k).str) l.length kept old := rfl
  clear sl sk hF hG
  by_cases hn : kept = []
  · have e0 : kept.length = 0 := by rw [hn]; rfl
    have hv' : leadI l kept old = -1 := by rw [hv]; unfold chooseI; rw [if_pos hn]
    rw [hv', e0]
    clear hv hv' hn e0
    go_enter Try.func18, Try.ntmps18
    go_wp2_with fail
    go_ret
    exact ⟨rfl, hR⟩
  · have hpos : 0 < kept.length := List.length_pos_iff.2 hn
    have d0 : ((kept.length : Int) == 0) = false := beq_eq_false_iff_ne.2 (by omega)
    have HV := Lib.hid hv
    have HN := Lib.hid hn
    clear hv hn
    go_enter Try.func18, Try.ntmps18
    go_wp2_with fail
    go_loopw [7] (fun i wr => ∃ q : Nat, q ≤ kept.length ∧ i = .int .i64 (q : Int) ∧ (∀ j, j < q → ¬ (kept.getD j 0 < 0 ∨ (l.length : Int) ≤ kept.getD j 0)) ∧ Below w.heap.size w wr) (fun i _ => kept.length - (intOf i).toNat)
    case atStart => exact ⟨0, Nat.zero_le _, rfl, fun j hj => by omega, hR⟩
    case round =>
      obtain ⟨q, hq, rfl, hall, hB⟩ := hrel
      clear hR
      have HA := Lib.hid hall
      by_cases hlt : q < kept.length
      · have i1 : (q : Int) < kept.length := by omega
        have i0 : (0 : Int) ≤ (q : Int) := by omega
        obtain ⟨b, off, rfl, x0⟩ := num_at18 SO.out.2 HF.out.2 hB (q := q) hlt
        have hin := getD_in hlt
        obtain ⟨y, hy⟩ : ∃ y, kept.getD q 0 = y := ⟨_, rfl⟩
        rw [hy] at x0 hin
        have HY := Lib.hid (And.intro hy hin)
        have BB := Lib.hid hB
        clear hall hB hy hin
        have bad : (y < 0 ∨ (l.length : Int) ≤ y) → leadI l kept old = -1 := fun h => by
          rw [HV.out]
          unfold chooseI
          rw [if_neg HN.out, if_pos]
          rw [List.any_eq_true]
          exact ⟨y, HY.out.2, by simpa using h⟩
        by_cases h1 : y < 0
        · have e1 : decide (y < 0) = true := decide_eq_true h1
          have hv := Lib.hid (bad (.inl h1))
          clear bad
          go_wp2_with fail
          go_ret
          exact ⟨by rw [hv.out]; rfl, BB.out⟩
        · have e1 : decide (y < 0) = false := decide_eq_false h1
          by_cases h2 : (l.length : Int) ≤ y
          · have e2 : decide ((l.length : Int) ≤ y) = true := decide_eq_true h2
            have hv := Lib.hid (bad (.inr h2))
            clear bad
            go_wp2_with fail
            go_ret
            exact ⟨by rw [hv.out]; rfl, BB.out⟩
          · have e2 : decide ((l.length : Int) ≤ y) = false := decide_eq_false h2
            have HH := Lib.hid (And.intro h1 h2)
            clear bad
            go_wp2_with fail
            go_roundw
            case rel =>
              refine ⟨q + 1, by omega, by go_num, fun j hj => ?_, BB.out⟩
              by_cases e : j = q
              · rw [e, HY.out.1]
                exact fun h => h.elim HH.out.1 HH.out.2
              · exact HA.out j (by omega)
            case measure => simp [intOf]; omega
      · have eq : q = kept.length := by omega
        subst eq
        have i2 : ¬ (kept.length : Int) < (kept.length : Int) := by omega
        have BB := hB
        clear hall hB
        obtain ⟨k0, hk0⟩ : ∃ k0, kept.getD 0 0 = k0 := ⟨_, rfl⟩
        have hin0 := HA.out 0 hpos
        rw [hk0] at hin0
        obtain ⟨s0, hs0⟩ : ∃ s0, (svAt l k0.toNat).str = s0 := ⟨_, rfl⟩
        have hhd : kept.headD 0 = k0 := by
          rw [← hk0]
          cases kept with
          | nil => simp at hpos
          | cons a r => rfl
        have any0 : kept.any (fun k => decide (k < 0 ∨ (l.length : Int) ≤ k)) = false := by
          rw [Bool.eq_false_iff, Ne, List.any_eq_true]
          rintro ⟨x, hx, h⟩
          obtain ⟨j, hj, rfl⟩ := List.getElem_of_mem hx
          have := HA.out j hj
          rw [show kept.getD j 0 = kept[j] by simp [List.getD, hj]] at this
          exact this (by simpa using h)
        have hv2 : leadI l kept old = if kept.any (fun k => decide (k = old)) = true ∧ (svAt l old.toNat).str ≤ s0 then old else k0 := by
          rw [HV.out]
          unfold chooseI
          rw [if_neg HN.out, if_neg (by rw [any0]; simp), hhd]
          simp only [hs0]
        have HV2 := Lib.hid hv2
        have HK0 := Lib.hid (And.intro hk0 (And.intro hs0 hin0))
        clear hv2 any0 hhd hk0 hs0 hin0
        generalize wr = wo at *
        go_wp2_with fail
        go_loopw [8] (fun i wr => ∃ q : Nat, q ≤ kept.length ∧ i = .int .i64 (q : Int) ∧ (∀ j, j < q → ¬ (kept.getD j 0 = old ∧ (svAt l old.toNat).str ≤ s0)) ∧ Below w.heap.size w wr) (fun i _ => kept.length - (intOf i).toNat)
        case atStart => exact ⟨0, Nat.zero_le _, rfl, fun j hj => by omega, BB⟩
        case round =>
          obtain ⟨q, hq, rfl, hno, hB⟩ := hrel
          clear BB
          have HO := Lib.hid hno
          obtain ⟨bk, offk, hxk, z0⟩ := num_at18 SO.out.2 HF.out.2 hB (q := 0) hpos
          rw [HK0.out.1, Nat.add_zero] at z0
          subst hxk
          clear hno
          by_cases hlt : q < kept.length
          · have i1 : (q : Int) < kept.length := by omega
            have i0 : (0 : Int) ≤ (q : Int) := by omega
            have ip : (0 : Int) < kept.length := by omega
            obtain ⟨bk', offk', hxk', x0⟩ := num_at18 SO.out.2 HF.out.2 hB (q := q) hlt
            obtain ⟨rfl, rfl⟩ : bk = bk' ∧ offk = offk' := by simpa using hxk'
            have hin := getD_in hlt
            have hra := HA.out q hlt
            obtain ⟨y, hy⟩ : ∃ y, kept.getD q 0 = y := ⟨_, rfl⟩
            rw [hy] at x0 hin hra
            have HY := Lib.hid (And.intro hy hin)
            have BB := Lib.hid hB
            obtain ⟨_, hs0, hin0⟩ := HK0.out
            have ik0 : 0 ≤ k0 := by omega
            have ik1 : k0 < (l.length : Int) := by omega
            by_cases h1 : y = old
            · have d1 : (y == old) = true := by rw [h1]; exact beq_self_eq_true old
              have io0 : 0 ≤ old := by omega
              have io1 : old < (l.length : Int) := by omega
              obtain ⟨bl, offl, hxl, a0⟩ := str_at18 SO.out.1 HF.out.1 hB io0 io1
              obtain ⟨bl', offl', hxl', b0⟩ := str_at18 SO.out.1 HF.out.1 hB ik0 ik1
              subst hxl
              obtain ⟨rfl, rfl⟩ : bl = bl' ∧ offl = offl' := by simpa using hxl'
              rw [hs0] at b0
              have H1 := Lib.hid h1
              clear h1 hy hin hra hB hs0 hin0 hxk' hxl'
              by_cases h2 : (svAt l old.toNat).str ≤ s0
              · have d2 : decide ((svAt l old.toNat).str ≤ s0) = true := decide_eq_true h2
                have hv : leadI l kept old = old := by
                  rw [HV2.out, if_pos]
                  exact ⟨by rw [List.any_eq_true]; exact ⟨y, HY.out.2, by simpa using H1.out⟩, h2⟩
                have HL := Lib.hid hv
                clear hv
                generalize (svAt l old.toNat).str = so at *
                go_wp2_with fail
                go_quiet (fail)
                have BD := Lib.hid (below_drewN BB.out nq)
                clear a0 b0 x0 z0 BB
                go_wp2_with fail
                go_ret
                exact ⟨by rw [HL.out]; rfl, BD.out⟩
              · have d2 : decide ((svAt l old.toNat).str ≤ s0) = false := decide_eq_false h2
                have H2 := Lib.hid h2
                clear h2
                go_wp2_with fail
                go_quiet (fail)
                have BD := Lib.hid (below_drewN BB.out nq)
                clear a0 b0 x0 z0 BB
                go_wp2_with fail
                go_roundw
                case rel =>
                  refine ⟨q + 1, by omega, by go_num, fun j hj => ?_, BD.out⟩
                  by_cases e : j = q
                  · exact fun h => by have := H2.out; have := h.2; omega
                  · exact HO.out j (by omega)
                case measure => simp [intOf]; omega
            · have d1 : (y == old) = false := beq_eq_false_iff_ne.2 h1
              have H1 := Lib.hid h1
              clear h1 hy hin hra hB hs0 hin0 hxk'
              go_wp2_with fail
              go_quiet (fail)
              have BD := Lib.hid (below_drewN BB.out nq)
              clear x0 z0 BB
              go_wp2_with fail
              go_roundw
              case rel =>
                refine ⟨q + 1, by omega, by go_num, fun j hj => ?_, BD.out⟩
                by_cases e : j = q
                · rw [e, HY.out.1]
                  exact fun h => H1.out h.1
                · exact HO.out j (by omega)
              case measure => simp [intOf]; omega
          · have eq : q = kept.length := by omega
            subst eq
            have i3 : ¬ (kept.length : Int) < (kept.length : Int) := by omega
            have ip : (0 : Int) < kept.length := by omega
            have hv : leadI l kept old = k0 := by
              rw [HV2.out, if_neg]
              rintro ⟨h, h2⟩
              rw [List.any_eq_true] at h
              obtain ⟨x, hx, hxo⟩ := h
              obtain ⟨j, hj, rfl⟩ := List.getElem_of_mem hx
              exact HO.out j hj ⟨by rw [show kept.getD j 0 = kept[j] by simp [List.getD, hj]]; simpa using hxo, h2⟩
            have HL := Lib.hid hv
            have BB := Lib.hid hB
            clear hv hB
            go_wp2_with fail
            go_ret
            exact ⟨by rw [HL.out]; rfl, BB.out⟩
theorem svC_len18 (s : Sv) : (svC s).length = 11 := rfl
theorem info_rsv18 : (Try.prog.info? 60).map (fun i => (i.zero, i.size, i.bytes)) = some (some (.agg #[.int .i64 0, .int .i64 0, .int .u32 0, .int .i64 0, .int .i64 0, .int .i64 0, .int .i64 0, .int .i64 0, .int .i64 0, .int .i64 0, .int .u8 0]), 11, 88) := by kernel_rfl
theorem sv_row18 (w : World) (s : Sv) (t : TypeId) : ∀ j u, (svC s)[j]? = some u → (w.alloc (.cells (svA s) t)).cell? ((⟨w.heap.size, 0, none⟩ : Addr).add j) = some u := by
  intro j u hu
  rw [Addr.add_lit, Nat.zero_add]
  have e : (svA s)[j]? = (svC s)[j]? := by
    have e' : svA s = (svC s).toArray := rfl
    rw [e', List.getElem?_toArray]
  simp only [World.cell?, heap_alloc_new]
  rw [← hu]
  exact e
theorem svC_one18 (s : Sv) : ∀ u ∈ svC s, u.oneCell' = true := by
  intro u hu
  simp only [svC, List.mem_cons, List.not_mem_nil, or_false] at hu
  rcases hu with rfl | rfl | rfl | rfl | rfl | rfl | rfl | rfl | rfl | rfl | rfl <;> rfl
set_option maxRecDepth 100000 in
set_option maxHeartbeats 6400000 in
theorem theirs18_any (l : List Sv) (hl : l.length ≤ 60) {F : Nat → Prop} {v : Value} (w : World) (hs : SlAt F 11 svC w v l) (hF : ∀ b, F b → b < w.heap.size) :
    Calls Try.prog 14 #[v] w fun e w' => ∃ u, e = .returned u ∧ SlAt (fun b => w.heap.size ≤ b ∧ b < w'.heap.size) 11 svC w' u l ∧ Below w.heap.size w w' := by
  obtain ⟨i0, hi0, hz0, hz1, hz2⟩ := info_parts info_rsv18
  have HS := Lib.hid hs
  obtain ⟨vx, vc, rfl⟩ := hs.slice
  have ownS := ownsRow_fresh w 60 11 w.heap.size (Nat.le_refl _)
  have bS := (Below.refl w.heap.size w).alloc (Nat.le_refl _) (.cells #[] 60)
  clear hs
  go_enter Try.func14, Try.ntmps14
  go_wp2_with fail
  go_loopw [3, 4] (fun o i wr => ∃ n : Nat, n ≤ l.length ∧ i = .int .i64 (n : Int) ∧ wr.ownsRow w.heap.size 60 11 o (l.take n).length ((l.take n).flatMap svC) ∧ Below w.heap.size w wr) (fun _ i _ => l.length - (intOf i).toNat)
  case atStart => exact ⟨0, Nat.zero_le _, rfl, by rw [List.take_zero]; exact ownS, bS⟩
  case round =>
    obtain ⟨n, hn, rfl, own, hB⟩ := hrel
    clear ownS bS
    have z1 := hB.size
    have htl : (l.take n).length = n := by rw [List.length_take]; omega
    by_cases hlt : n < l.length
    · obtain ⟨s, hsn⟩ : ∃ s, l[n]? = some s := ⟨_, List.getElem?_eq_getElem hlt⟩
      have i1 : (n : Int) < l.length := by omega
      have i0' : (0 : Int) ≤ (n : Int) := by omega
      rcases HS.out with ⟨_, _, _, _, hnil⟩ | ⟨b, off, cap', hvv, hbF, hcs⟩
      · rw [hnil] at hlt
        simp at hlt
      have hsxx : vx = some ⟨b, off, none⟩ := (Value.slice.inj hvv).1
      subst hsxx
      have lb := hF b hbF
      obtain ⟨x0, x1, x2, x3, x4, x5, x6, x7, x8, x9, x10⟩ := sv_at18 (w := wr) (b := b) (q := off + n * 11) (s := s) (fun j u hu => by
        rw [hB.cell lb]
        exact hcs n s hsn j u hu)
      have htk : l.take (n + 1) = l.take n ++ [s] := by
        obtain ⟨h1, rfl⟩ := List.getElem?_eq_some_iff.1 hsn
        exact List.take_succ_eq_append_getElem h1
      have TK := Lib.hid htk
      have hB1 := hB.alloc z1 (.cells (svA s) 57)
      have own1 := own.alloc (.cells (svA s) 57)
      clear htk hcs hvv
      rw [htl] at own1
      go_wp2_with (at_builtin; refine wpList_append_own _ rfl _ _ 35 rfl w.heap.size 60 i0 _ 11 88 Try.underlying35 hi0 hz0 hz1 hz2 rfl (by decide) _ _ _ rfl (own1.alloc _) ⟨wr.heap.size + 1, 0, none⟩ 1 1 (svC s) rfl rfl (by have := sv_row18 (wr.alloc (.cells (svA s) 57)) s 60; rw [World.size_alloc] at this; exact this) (svC_one18 s) (by unfold maxLen; omega) (by omega) (by simp only [World.size_alloc]; omega) ?_; intro v4 w4 hown4 hgrow4 _; have own4 : w4.ownsRow w.heap.size 60 11 v4 (l.take (n + 1)).length ((l.take (n + 1)).flatMap svC) := (by rw [TK.out, List.flatMap_append, List.length_append, htl]; simpa using hown4); have B4 := (hB1.alloc (by rw [World.size_alloc]; omega) (.cells (svA s) 60)).grown hgrow4 (by simp only [World.size_alloc]; omega) (fun g hg => by have := (own.lt g hg).1; omega); have z4 := B4.size)
      go_roundw
      case rel => exact ⟨n + 1, by omega, by go_num, own4, B4⟩
      case measure => simp [intOf]; omega
    · have enl : n = l.length := by omega
      subst enl
      rw [List.take_length] at own
      have SM := Lib.hid (SlAt.own svC_len18 own)
      have BB := Lib.hid hB
      clear own hB
      go_wp2_with fail
      go_ret
      exact ⟨_, rfl, SM.out, BB.out⟩
end Go.Proofs.Ytekdablolacgfaa.W

