/- Layer 18's laws: the document's weights, means and jitters. -/
import Derived.Test.YtekdablolacgfaaCqZ
import Derived.Test.YtekdablolacgfaaFixE
import Derived.Test.YtekdablolacgfaaFixB
import Derived.Test.YtekdablolacgfaaRowS
import Derived.Test.YtekdablolacgfaaHdZ
namespace Go.Proofs.Ytekdablolacgfaa.W
open Go.RowKit Go.Sort Go.ChangeShapes Go.WideShapes
set_option linter.unusedVariables false
set_option linter.unusedSimpArgs false
set_option maxRecDepth 100000 in
set_option maxHeartbeats 3200000 in
theorem rwt18_any (d : Int) (d0 : I64 d) (w : World) : Calls Try.prog 13 #[.int .i64 d] w fun e w' => e = .returned (.int .i64 (wtI d)) ∧ w = w' := by
  obtain ⟨m, hm⟩ : ∃ m, max d 21474836 = m := ⟨_, rfl⟩
  have f1 := fun ts t W => run_max18 .i64 d 21474836 m hm ts t W
  have hv : wtI d = max 1 (divI 4294967296 m) := by unfold wtI; rw [hm]
  have f2 := fun ts t W => run_max18 .i64 1 (divI 4294967296 m) (wtI d) hv.symm ts t W
  unfold I64 at d0
  have c := rfdiv_any 4294967296 m (by decide) (by decide) (by omega) (by omega)
  generalize divI 4294967296 m = x at *
  generalize wtI d = y at *
  clear hm hv
  go_enter Try.func13, Try.ntmps13
  go_wp2_with fail
  (with_reducible refine (c _).mono ?_)
  rintro e w1 ⟨rfl, rfl⟩
  go_wp2_with fail
  go_ret
  exact ⟨rfl, rfl⟩
set_option maxRecDepth 100000 in
set_option maxHeartbeats 12800000 in
theorem rmean18_any (o d : List Int) (ho : o.length ≤ 60) (hd : d.length ≤ 60) (tx : ∀ x ∈ o, -9223372036854775808 ≤ x ∧ x ≤ 9223372036854775807) (td : ∀ x ∈ d, -9223372036854775808 ≤ x ∧ x ≤ 9223372036854775807) (lo hi : Int) (l0 : -9223372036854775808 ≤ lo ∧ lo ≤ 9223372036854775807) (h0 : -9223372036854775808 ≤ hi ∧ hi ≤ 9223372036854775807) {F G : Nat → Prop} {vo vd : Value} (w : World) (so : SlAt F 1 (oneE .i64) w vo o) (sd : SlAt G 1 (oneE .i64) w vd d) (hF : ∀ b, F b → b < w.heap.size) (hG : ∀ b, G b → b < w.heap.size) :
    Calls Try.prog 9 #[vo, vd, .agg #[.int .i64 lo, .int .i64 hi]] w fun e w' => e = .returned (.int .i64 (meanC o d lo hi)) ∧ Below w.heap.size w w' := by
  obtain ⟨xo, co, rfl⟩ := so.slice
  obtain ⟨xd, cd, rfl⟩ := sd.slice
  have hx := heap_alloc_new w (.cells #[.int .i64 lo, .int .i64 hi] 24)
  have hB := (Below.refl w.heap.size w).alloc (Nat.le_refl _) (.cells #[.int .i64 lo, .int .i64 hi] 24)
  have hz := World.size_alloc w (.cells #[.int .i64 lo, .int .i64 hi] 24)
  have SO := Lib.hid (And.intro so sd)
  have HF := Lib.hid (And.intro hF hG)
  obtain ⟨mn, hmn⟩ : ∃ mn, min (o.length : Int) (d.length : Int) = mn := ⟨_, rfl⟩
  have f1 := fun ts t W => run_min18 .i64 (o.length : Int) (d.length : Int) mn hmn ts t W
  have hlc : mn = (lenC o d : Int) := by unfold lenC; omega
  have X := Lib.hid (And.intro hx (And.intro hB hz))
  clear so sd hF hG hx hB hz hmn
  go_enter Try.func9, Try.ntmps9
  go_wp2_with fail
  generalize w.alloc (.cells #[.int .i64 lo, .int .i64 hi] 24) = w0 at *
  go_loopw [7, 8, 9] (fun s a i wr => ∃ q : Nat, q ≤ lenC o d ∧ i = .int .i64 (q : Int) ∧ s = .int .i64 (sumO o d q) ∧ a = .int .i64 (sumW d q) ∧ Below w0.heap.size w0 wr) (fun _ _ i _ => lenC o d - (intOf i).toNat)
  case atStart => exact ⟨0, Nat.zero_le _, rfl, rfl, rfl, Below.refl _ _⟩
  case round =>
    obtain ⟨q, hq, rfl, rfl, rfl, hB⟩ := hrel
    obtain ⟨hx, hB0, hz⟩ := X.out
    have hBw := hB0.trans (hB.mono (by omega))
    have hlo : lenC o d ≤ o.length ∧ lenC o d ≤ d.length := by unfold lenC; omega
    have rO := sumO_i64 o d q
    have rW := sumW_i64 d q
    unfold I64 at rO rW
    by_cases hlt : q < lenC o d
    · have i1 : (q : Int) < mn := by omega
      obtain ⟨b, off, rfl, x0⟩ := num_at18 SO.out.1 HF.out.1 hBw (q := q) (by omega)
      obtain ⟨b', off', rfl, y0⟩ := num_at18 SO.out.2 HF.out.2 hBw (q := q) (by omega)
      have j1 : (q : Int) < o.length := by omega
      have j2 : (q : Int) < d.length := by omega
      have j0 : (0 : Int) ≤ q := by omega
      have t1 : I64 (o.getD q 0) := tx _ (getD_in (by omega))
      have t2 : I64 (d.getD q 0) := td _ (getD_in (by omega))
      have c1 := rwt18_any _ t2
      have t3 := wt_range (d.getD q 0) t2.2
      unfold I64 at t1 t2
      have c2 := rfmul_any (o.getD q 0) (wtI (d.getD q 0)) t1.1 t1.2 (by omega) (by omega)
      have t4 := mul_i64 (o.getD q 0) (wtI (d.getD q 0))
      unfold I64 at t4
      have c3 := radd_any (sumO o d q) (mulI (o.getD q 0) (wtI (d.getD q 0))) rO.1 rO.2 t4.1 t4.2
      have c4 := radd_any (sumW d q) (wtI (d.getD q 0)) rW.1 rW.2 (by omega) (by omega)
      have e1 : addI (sumO o d q) (mulI (o.getD q 0) (wtI (d.getD q 0))) = sumO o d (q + 1) := rfl
      have e2 : addI (sumW d q) (wtI (d.getD q 0)) = sumW d (q + 1) := rfl
      rw [e1] at c3
      rw [e2] at c4
      have BB := Lib.hid hB
      obtain ⟨O1, hO1⟩ : ∃ x, sumO o d (q + 1) = x := ⟨_, rfl⟩
      obtain ⟨W1, hW1⟩ : ∃ x, sumW d (q + 1) = x := ⟨_, rfl⟩
      rw [hO1] at c3
      rw [hW1] at c4
      have HE := Lib.hid (And.intro (congrArg (Value.int .i64) hO1.symm) (congrArg (Value.int .i64) hW1.symm))
      generalize sumO o d q = O0 at *
      generalize sumW d q = W0 at *
      generalize mulI (o.getD q 0) (wtI (d.getD q 0)) = M0 at *
      generalize wtI (d.getD q 0) = V0 at *
      generalize o.getD q 0 = A0 at *
      generalize d.getD q 0 = D0 at *
      clear e1 e2 hB hBw hx hB0 hO1 hW1
      go_wp2_with fail
      go_quiet (first | exact quiet_eq (c1 _) | exact quiet_eq (c2 _) | exact quiet_eq (c3 _))
      have y1 : (wr.drewN nq).cell? ⟨b', off' + q, none⟩ = some (.int .i64 D0) := y0
      have BD := Lib.hid (below_drewN BB.out nq)
      clear x0 y0 BB
      go_wp2_with fail
      (with_reducible refine (c1 _).mono ?_)
      rintro e w1 ⟨rfl, rfl⟩
      go_wp2_with fail
      (with_reducible refine (c4 _).mono ?_)
      rintro e w2 ⟨rfl, rfl⟩
      clear c1 c2 c3 c4 y1
      go_wp2_with fail
      go_roundw
      case rel => exact ⟨q + 1, by omega, by go_num, HE.out.1, HE.out.2, BD.out⟩
      case measure => simp [intOf]; omega
    · have eq : q = lenC o d := by omega
      subst eq
      have i1 : ¬ mn < mn := by omega
      have t5 := div_i64 (sumO o d (lenC o d)) (sumW d (lenC o d))
      unfold I64 at t5
      have c5 := rfdiv_any (sumO o d (lenC o d)) (sumW d (lenC o d)) rO.1 rO.2 rW.1 rW.2
      have c6 := rclamp_any (divI (sumO o d (lenC o d)) (sumW d (lenC o d))) lo hi t5.1 t5.2 l0.1 l0.2 h0.1 h0.2
      have hv : clampI (divI (sumO o d (lenC o d)) (sumW d (lenC o d))) lo hi = meanC o d lo hi := rfl
      rw [hv] at c6
      obtain ⟨s0, s1⟩ := two_in18 ((hB.block _ (by omega)).trans hx)
      have BB := Lib.hid hBw
      clear hx hB0 hB hBw hv rO rW t5
      rw [← hlc]
      go_wp2_with fail
      go_quiet (first | exact quiet_eq (c5 _) | exact quiet_eq (c6 _))
      have BD := Lib.hid (below_drewN BB.out nq)
      clear s0 s1 BB c5 c6
      go_wp2_with fail
      go_ret
      exact ⟨rfl, BD.out⟩
set_option maxRecDepth 100000 in
set_option maxHeartbeats 12800000 in
theorem rjit18_any (o d : List Int) (ho : o.length ≤ 60) (hd : d.length ≤ 60) (tx : ∀ x ∈ o, -9223372036854775808 ≤ x ∧ x ≤ 9223372036854775807) (td : ∀ x ∈ d, -9223372036854775808 ≤ x ∧ x ≤ 9223372036854775807) (ab : Int) (l0 : -9223372036854775808 ≤ ab ∧ ab ≤ 9223372036854775807) {F G : Nat → Prop} {vo vd : Value} (w : World) (so : SlAt F 1 (oneE .i64) w vo o) (sd : SlAt G 1 (oneE .i64) w vd d) (hF : ∀ b, F b → b < w.heap.size) (hG : ∀ b, G b → b < w.heap.size) :
    Calls Try.prog 11 #[vo, vd, .int .i64 ab] w fun e w' => e = .returned (.int .i64 (jitC o d ab)) ∧ Below w.heap.size w w' := by
  obtain ⟨xo, co, rfl⟩ := so.slice
  obtain ⟨xd, cd, rfl⟩ := sd.slice
  have SO := Lib.hid (And.intro so sd)
  have HF := Lib.hid (And.intro hF hG)
  obtain ⟨mn, hmn⟩ : ∃ mn, min (o.length : Int) (d.length : Int) = mn := ⟨_, rfl⟩
  have f1 := fun ts t W => run_min18 .i64 (o.length : Int) (d.length : Int) mn hmn ts t W
  have hlc : mn = (lenC o d : Int) := by unfold lenC; omega
  clear so sd hF hG hmn
  go_enter Try.func11, Try.ntmps11
  go_wp2_with fail
  go_loopw [7, 8, 9] (fun s a i wr => ∃ q : Nat, q ≤ lenC o d ∧ i = .int .i64 (q : Int) ∧ s = .int .i64 (sumJ o d ab q) ∧ a = .int .i64 (sumW d q) ∧ Below w.heap.size w wr) (fun _ _ i _ => lenC o d - (intOf i).toNat)
  case atStart => exact ⟨0, Nat.zero_le _, rfl, rfl, rfl, Below.refl _ _⟩
  case round =>
    obtain ⟨q, hq, rfl, rfl, rfl, hB⟩ := hrel
    have hlo : lenC o d ≤ o.length ∧ lenC o d ≤ d.length := by unfold lenC; omega
    have rO := sumJ_i64 o d ab q
    have rW := sumW_i64 d q
    unfold I64 at rO rW
    by_cases hlt : q < lenC o d
    · have i1 : (q : Int) < mn := by omega
      obtain ⟨b, off, rfl, x0⟩ := num_at18 SO.out.1 HF.out.1 hB (q := q) (by omega)
      obtain ⟨b', off', rfl, y0⟩ := num_at18 SO.out.2 HF.out.2 hB (q := q) (by omega)
      have j1 : (q : Int) < o.length := by omega
      have j2 : (q : Int) < d.length := by omega
      have j0 : (0 : Int) ≤ q := by omega
      have t1 : I64 (o.getD q 0) := tx _ (getD_in (by omega))
      have t2 : I64 (d.getD q 0) := td _ (getD_in (by omega))
      have c1 := rwt18_any _ t2
      have t3 := wt_range (d.getD q 0) t2.2
      unfold I64 at t1 t2
      have c2 := rsub_any (o.getD q 0) ab t1.1 t1.2 l0.1 l0.2
      have t4 := sub_i64 (o.getD q 0) ab
      unfold I64 at t4
      have c3 := rfmul_any (subI (o.getD q 0) ab) (subI (o.getD q 0) ab) t4.1 t4.2 t4.1 t4.2
      have t5 := mul_i64 (subI (o.getD q 0) ab) (subI (o.getD q 0) ab)
      unfold I64 at t5
      have c4 := rfmul_any (wtI (d.getD q 0)) (mulI (subI (o.getD q 0) ab) (subI (o.getD q 0) ab)) (by omega) (by omega) t5.1 t5.2
      have t6 := mul_i64 (wtI (d.getD q 0)) (mulI (subI (o.getD q 0) ab) (subI (o.getD q 0) ab))
      unfold I64 at t6
      have c5 := radd_any (sumJ o d ab q) (mulI (wtI (d.getD q 0)) (mulI (subI (o.getD q 0) ab) (subI (o.getD q 0) ab))) rO.1 rO.2 t6.1 t6.2
      have c6 := radd_any (sumW d q) (wtI (d.getD q 0)) rW.1 rW.2 (by omega) (by omega)
      have e1 : addI (sumJ o d ab q) (mulI (wtI (d.getD q 0)) (mulI (subI (o.getD q 0) ab) (subI (o.getD q 0) ab))) = sumJ o d ab (q + 1) := rfl
      have e2 : addI (sumW d q) (wtI (d.getD q 0)) = sumW d (q + 1) := rfl
      rw [e1] at c5
      rw [e2] at c6
      have BB := Lib.hid hB
      obtain ⟨O1, hO1⟩ : ∃ x, sumJ o d ab (q + 1) = x := ⟨_, rfl⟩
      obtain ⟨W1, hW1⟩ : ∃ x, sumW d (q + 1) = x := ⟨_, rfl⟩
      rw [hO1] at c5
      rw [hW1] at c6
      have HE := Lib.hid (And.intro (congrArg (Value.int .i64) hO1.symm) (congrArg (Value.int .i64) hW1.symm))
      generalize sumJ o d ab q = O0 at *
      generalize sumW d q = W0 at *
      generalize mulI (wtI (d.getD q 0)) (mulI (subI (o.getD q 0) ab) (subI (o.getD q 0) ab)) = M0 at *
      generalize mulI (subI (o.getD q 0) ab) (subI (o.getD q 0) ab) = M1 at *
      generalize subI (o.getD q 0) ab = M2 at *
      generalize wtI (d.getD q 0) = V0 at *
      generalize o.getD q 0 = A0 at *
      generalize d.getD q 0 = D0 at *
      clear e1 e2 hB hO1 hW1
      go_wp2_with fail
      (with_reducible refine (c2 _).mono ?_)
      rintro e w1 ⟨rfl, rfl⟩
      go_wp2_with fail
      (with_reducible refine (c1 _).mono ?_)
      rintro e w2 ⟨rfl, rfl⟩
      go_wp2_with fail
      (with_reducible refine (c3 _).mono ?_)
      rintro e w3 ⟨rfl, rfl⟩
      go_wp2_with fail
      (with_reducible refine (c4 _).mono ?_)
      rintro e w4 ⟨rfl, rfl⟩
      go_wp2_with fail
      (with_reducible refine (c5 _).mono ?_)
      rintro e w5 ⟨rfl, rfl⟩
      go_wp2_with fail
      (with_reducible refine (c1 _).mono ?_)
      rintro e w6 ⟨rfl, rfl⟩
      go_wp2_with fail
      (with_reducible refine (c6 _).mono ?_)
      rintro e w7 ⟨rfl, rfl⟩
      clear c1 c2 c3 c4 c5 c6
      go_wp2_with fail
      go_roundw
      case rel => exact ⟨q + 1, by omega, by go_num, HE.out.1, HE.out.2, BB.out⟩
      case measure => simp [intOf]; omega
    · have eq : q = lenC o d := by omega
      subst eq
      have i1 : ¬ mn < mn := by omega
      have t5 := div_i64 (sumJ o d ab (lenC o d)) (sumW d (lenC o d))
      unfold I64 at t5
      have c5 := rfdiv_any (sumJ o d ab (lenC o d)) (sumW d (lenC o d)) rO.1 rO.2 rW.1 rW.2
      have c6 := rfsqrt_any (divI (sumJ o d ab (lenC o d)) (sumW d (lenC o d))) t5.1 t5.2
      have hv : rootI (divI (sumJ o d ab (lenC o d)) (sumW d (lenC o d))) = jitC o d ab := rfl
      rw [hv] at c6
      have BB := Lib.hid hB
      clear hB hv rO rW t5
      rw [← hlc]
      go_wp2_with fail
      (with_reducible refine (c5 _).mono ?_)
      rintro e w1 ⟨rfl, rfl⟩
      go_wp2_with fail
      (with_reducible refine (c6 _).mono ?_)
      rintro e w2 ⟨rfl, rfl⟩
      clear c5 c6
      go_wp2_with fail
      go_ret
      exact ⟨rfl, BB.out⟩
/-- A span that came in. -/
structure Sn where
  lo : Int
  hi : Int
def Sn.val (s : Sn) : Value := .agg #[.int .i64 s.lo, .int .i64 s.hi]
structure Sn.Typed (s : Sn) : Prop where
  lo : -9223372036854775808 ≤ s.lo ∧ s.lo ≤ 9223372036854775807
  hi : -9223372036854775808 ≤ s.hi ∧ s.hi ≤ 9223372036854775807
set_option maxRecDepth 100000 in
theorem open_sp {H : Type} {enc : TypeId × Value → H} {w : World} {base : Nat} {spare : Nat → Bool} {held : Bool} {r : Reach} {b0 : Nat} {v : Value} {d : DataW H} {p : List MemPlace}
    (hv : Value.okWide Try.prog w r b0 24 v) (h : DataW.Trod enc Try.prog w base spare held 24 v d p) : ∃ h : Sn, v = h.val ∧ h.Typed := by
  obtain ⟨zs, hl, rfl, hw⟩ := open_int_fields [.i64, .i64] Try.underlying24 (by kernel_rfl) (by kernel_rfl) rfl (by
    intro i f hf
    match i, hf with
    | 0, hf => simp at hf; subst hf; exact ⟨.i64, rfl, Try.underlying2⟩
    | 1, hf => simp at hf; subst hf; exact ⟨.i64, rfl, Try.underlying2⟩
    | n + 2, hf => simp at hf) hv h
  match zs, hl with
  | [po, cn], _ =>
    refine ⟨⟨po, cn⟩, rfl, ?_⟩
    constructor
    · have := bounds_i64 (hw 0 _ _ rfl rfl)
      dsimp only
      omega
    · have := bounds_i64 (hw 1 _ _ rfl rfl)
      dsimp only
      omega
end Go.Proofs.Ytekdablolacgfaa.W
