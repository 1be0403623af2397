/- SampleTrue: whatever the ways take. No condition. -/
import Derived.Test.YtlpcoaohgcgkiaaGreatSmZ
import Derived.Test.YtlpcoaohgcgkiaaGreatSmT
import Derived.Deep.RegionHeld3
import Derived.Deep.DeepCutAuto
import Derived.WalkKit
import Derived.WalkSpells
import Derived.WalkLawsBesides
import Derived.Lib.Hide
import Derived.Handy
import Derived.ProofKit
import Derived.OpenShut
import Derived.ShutString
import Derived.ChangeOld
import Derived.Below
namespace Go.Proofs.YtlpcoaohgcgkiaaGreat.SampleTrue
open Go.Proofs.YtlpcoaohgcgkiaaGreat.W
open Go.ChangeShapes Go.WideShapes Go.ChangeAt Go.RowKit
open Go.ChangeMaps (open_string shut_string)
set_option linter.unusedVariables false
theorem own : ownKnob Tryz.prog.godebug = none := by kernel_rfl
theorem laidOut : laidOutB Tryz.prog = true := by kernel_rfl
open Go.Sort
set_option linter.unusedSimpArgs false
set_option maxRecDepth 100000 in
set_option maxHeartbeats 25600000 in
theorem walk (A o t b s ow : Int) (w : World) (wA : (Lit.int .u64 A).wf = true) (wo : (Lit.int .i32 o).wf = true) (wt : (Lit.int .u32 t).wf = true) (wb : (Lit.int .u32 b).wf = true) (ws : (Lit.int .u32 s).wf = true) (ww : (Lit.int .i8 ow).wf = true) :
    Calls Tryz.prog 4 #[.int .u64 A, .int .i32 o, .int .u32 t, .int .u32 b, .int .u32 s, .int .i8 ow] w fun e w' => e = .returned (.bool true) ∧ Below w.heap.size w w' := by
  have A0 : 0 ≤ A ∧ A < 18446744073709551616 := by have := bounds_u64 wA; omega
  have o0 : -2147483648 ≤ o ∧ o ≤ 2147483647 := by have := bounds_i32 wo; omega
  have t0 := u32_bounds wt
  have b0 := u32_bounds wb
  have s0 := u32_bounds ws
  have w0 : -128 ≤ ow ∧ ow ≤ 127 := by have := bounds_i8 ww; omega
  clear wA wo wt wb ws ww
  obtain ⟨R, hR0⟩ : ∃ R, IntKind.u64.wrap (IntKind.u64.wrap (A + IntKind.u64.wrap o) + t) = R := ⟨_, rfl⟩
  obtain ⟨X, hX0⟩ : ∃ X, IntKind.u64.wrap (R + s) = X := ⟨_, rfl⟩
  obtain ⟨C, hC0⟩ : ∃ C, IntKind.u64.wrap (IntKind.u64.wrap (X - IntKind.u64.wrap o) + b) = C := ⟨_, rfl⟩
  have hR : R = (A + o + t) % 18446744073709551616 := by rw [← hR0]; simp only [IntKind.wrap_u64, Int.emod_add_emod, Int.add_emod_emod]
  have hX : X = (R + s) % 18446744073709551616 := by rw [← hX0, IntKind.wrap_u64]
  have hC : C = (X - o + b) % 18446744073709551616 := by rw [← hC0]; simp only [IntKind.wrap_u64, Int.emod_add_emod, Int.sub_emod_emod]
  have rR : 0 ≤ R ∧ R < 18446744073709551616 := by omega
  have rX : 0 ≤ X ∧ X < 18446744073709551616 := by omega
  have rC : 0 ≤ C ∧ C < 18446744073709551616 := by omega
  have tm : -19 ≤ ow.tmod 20 ∧ ow.tmod 20 ≤ 19 := by
    by_cases hn : 0 ≤ ow
    · rw [Int.tmod_eq_emod_of_nonneg hn]
      omega
    · obtain ⟨y, rfl⟩ : ∃ y, ow = -y := ⟨-ow, by omega⟩
      rw [Int.neg_tmod, Int.tmod_eq_emod_of_nonneg (by omega)]
      omega
  obtain ⟨q, hq⟩ : ∃ q, ow.tmod 20 = q := ⟨_, rfl⟩
  rw [hq] at tm
  have ew : IntKind.i64.wrap ((IntKind.i64.wrap ow).tmod 20 - 10) = q - 10 := by
    have e1 : IntKind.i64.wrap ow = ow := by rw [IntKind.wrap_i64]; omega
    rw [e1, hq, IntKind.wrap_i64]
    omega
  have c1 := std13_any
  have H := std_params
  have hf := std_phi
  generalize chkP stdC = p at *
  obtain ⟨eE, S, eS, tS, f1, f2, f3, f4, f5, f6, f7, f8⟩ := true_times H.typed hf A0 o0 t0 b0 s0 (show q - 10 ≤ 9 by omega) hR hX hC
  have th : Hd.Typed ⟨0, 0, 0, 0, 0, 0, 0, 0, 0, 0, A, R, X⟩ := by
    constructor
    all_goals (dsimp only; omega)
  have c2 := smake_any p H.typed (q - 10) (by omega) _ th C rC 5 0 (by decide) (by decide)
  rw [eE, eS, ← ew] at c2
  clear ew hq tm
  have c3 := sspan_any p H.typed S tS (by omega) 5 0 (by decide) (by decide)
  have c4 := shown13_any
  generalize spanL p S 5 0 = lo at *
  generalize spanH p S 5 0 = hi at *
  unfold Pm.val Smp.val at *
  unfold Hd.val at c2
  dsimp only at c2
  have F := Lib.hid (And.intro f1 (And.intro f2 (And.intro f3 (And.intro f4 (And.intro f5 (And.intro f6 (And.intro f7 f8)))))))
  clear f1 f2 f3 f4 f5 f6 f7 f8 eE eS tS th H hf hR hX hC rR rX rC
  have hA := (Below.refl w.heap.size w).alloc (Nat.le_refl _) (.cells #[.int .i64 0, .int .i64 0, .int .i64 0, .int .i64 0, .int .i64 0, .int .i64 0, .int .u32 0, .int .u32 0, .int .u32 0, .int .u64 0, .int .u64 A, .int .u64 R, .int .u64 X] 27)
  have hh := heap_alloc_new w (.cells #[.int .i64 0, .int .i64 0, .int .i64 0, .int .i64 0, .int .i64 0, .int .i64 0, .int .u32 0, .int .u32 0, .int .u32 0, .int .u64 0, .int .u64 A, .int .u64 R, .int .u64 X] 27)
  go_enter Tryz.func4, Tryz.ntmps4
  go_upto_region 5 with fail
  clear hR0 hX0 hC0
  generalize w.alloc (.cells #[.int .i64 0, .int .i64 0, .int .i64 0, .int .i64 0, .int .i64 0, .int .i64 0, .int .u32 0, .int .u32 0, .int .u32 0, .int .u64 0, .int .u64 A, .int .u64 R, .int .u64 X] 27) = w1 at *
  have hl1 := (Array.getElem?_eq_some_iff.1 hh).1
  go_cut [15, 16] (fun ps e wx => ∃ b : Nat, ps = .pointer (some ⟨b, 0, none⟩) ∧ e = .int .i64 0 ∧ wx.heap[b]? = some (.cells #[.int .i64 S.off, .int .i64 S.del, .int .i64 S.disp, .int .i64 S.at_, .int .i64 S.total] 29 (0, 0)) ∧ Below w.heap.size w wx)
  case first =>
    have hhd : w1.drew.heap[w.heap.size]? = some (.cells #[.int .i64 0, .int .i64 0, .int .i64 0, .int .i64 0, .int .i64 0, .int .i64 0, .int .u32 0, .int .u32 0, .int .u32 0, .int .u64 0, .int .u64 A, .int .u64 R, .int .u64 X] 27 (0, 0)) := hh
    have hha : (w1.alloc (.cells #[.int .i64 0, .int .i64 0, .int .i64 0, .int .i64 0, .int .i64 0] 29)).drew.heap[w.heap.size]? = some (.cells #[.int .i64 0, .int .i64 0, .int .i64 0, .int .i64 0, .int .i64 0, .int .i64 0, .int .u32 0, .int .u32 0, .int .u32 0, .int .u64 0, .int .u64 A, .int .u64 R, .int .u64 X] 27 (0, 0)) := laid (.cells #[.int .i64 0, .int .i64 0, .int .i64 0, .int .i64 0, .int .i64 0] 29) hh
    have oba : (w1.alloc (.cells #[.int .i64 0, .int .i64 0, .int .i64 0, .int .i64 0, .int .i64 0] 29)).drew.heap[w1.heap.size]? = some (.cells #[.int .i64 0, .int .i64 0, .int .i64 0, .int .i64 0, .int .i64 0] 29 (0, 0)) := heap_alloc_new w1 (.cells #[.int .i64 0, .int .i64 0, .int .i64 0, .int .i64 0, .int .i64 0] 29)
    have Ba : Below w.heap.size w (w1.alloc (.cells #[.int .i64 0, .int .i64 0, .int .i64 0, .int .i64 0, .int .i64 0] 29)).drew := (hA.alloc hA.size (.cells #[.int .i64 0, .int .i64 0, .int .i64 0, .int .i64 0, .int .i64 0] 29)).drew
    have Bd : Below w.heap.size w w1.drew := hA.drew
    have K0 := thirteen_in hhd
    have K1 := thirteen_in hha
    go_region_held3 (fun w' => w'.cell? ⟨w.heap.size, 0, none⟩ = some (.int .i64 0) ∧ w'.cell? ⟨w.heap.size, 1, none⟩ = some (.int .i64 0) ∧ w'.cell? ⟨w.heap.size, 2, none⟩ = some (.int .i64 0) ∧ w'.cell? ⟨w.heap.size, 3, none⟩ = some (.int .i64 0) ∧ w'.cell? ⟨w.heap.size, 4, none⟩ = some (.int .i64 0) ∧ w'.cell? ⟨w.heap.size, 5, none⟩ = some (.int .i64 0) ∧ w'.cell? ⟨w.heap.size, 6, none⟩ = some (.int .u32 0) ∧ w'.cell? ⟨w.heap.size, 7, none⟩ = some (.int .u32 0) ∧ w'.cell? ⟨w.heap.size, 8, none⟩ = some (.int .u32 0) ∧ w'.cell? ⟨w.heap.size, 9, none⟩ = some (.int .u64 0) ∧ w'.cell? ⟨w.heap.size, 10, none⟩ = some (.int .u64 A) ∧ w'.cell? ⟨w.heap.size, 11, none⟩ = some (.int .u64 R) ∧ w'.cell? ⟨w.heap.size, 12, none⟩ = some (.int .u64 X))
      (with_reducible assumption)
      (first
        | (go_at_call 9; (with_reducible refine (c1 _).mono ?_); rintro e v1 ⟨rfl, g1⟩; first
            | (have hh1 := kept hhd g1; have B1 := Bd.trans (g1.mono Bd.size); have K2 := thirteen_in hh1; have K3 := thirteen_in (laid (.cells #[.int .i64 0, .int .i64 0, .int .i64 0, .int .i64 0, .int .i64 0] 29) hh1); have ob1 := heap_alloc_new v1 (.cells #[.int .i64 0, .int .i64 0, .int .i64 0, .int .i64 0, .int .i64 0] 29); have hn : w.heap.size ≠ v1.heap.size := (by have := (Array.getElem?_eq_some_iff.1 hh1).1; omega))
            | (have hh1 := kept hha g1; have B1 := Ba.trans (g1.mono Ba.size); have K2 := thirteen_in hh1; have ob1 := kept oba g1; have hn : w.heap.size ≠ w1.heap.size := (by omega)))
        | (go_at_call 6; (with_reducible refine (c2 _).mono ?_); rintro e v2 ⟨rfl, g2⟩; first
            | (have B2 := B1.trans (g2.mono B1.size); obtain ⟨hh2, ob2, ol2, fz2, ⟨r0, r1, r2, r3, r4⟩, m1, m2⟩ := behind (.int .i64 S.off) (.int .i64 S.del) (.int .i64 S.disp) (.int .i64 S.at_) (.int .i64 S.total) hh1 ob1 hn g2; have K4 := thirteen_in hh2; have K5 := thirteen_in m1)
            | (have B2 := (B1.alloc B1.size (.cells #[.int .i64 0, .int .i64 0, .int .i64 0, .int .i64 0, .int .i64 0] 29)).trans (g2.mono (B1.alloc B1.size (.cells #[.int .i64 0, .int .i64 0, .int .i64 0, .int .i64 0, .int .i64 0] 29)).size); obtain ⟨hh2, ob2, ol2, fz2, ⟨r0, r1, r2, r3, r4⟩, m1, m2⟩ := behind (.int .i64 S.off) (.int .i64 S.del) (.int .i64 S.disp) (.int .i64 S.at_) (.int .i64 S.total) (laid (.cells #[.int .i64 0, .int .i64 0, .int .i64 0, .int .i64 0, .int .i64 0] 29) hh1) ob1 hn g2; have K4 := thirteen_in hh2; have K5 := thirteen_in m1)
            | (have B2 := B1.trans (g2.mono B1.size); have hh2 := kept hh1 g2; have K4 := thirteen_in hh2; have K5 := thirteen_in (laid (.cells #[.int .i64 S.off, .int .i64 S.del, .int .i64 S.disp, .int .i64 S.at_, .int .i64 S.total] 29) hh2); have K6 := thirteen_in (laid (.cells #[.int .i64 0, .int .i64 0, .int .i64 0, .int .i64 0, .int .i64 0] 29) hh2))))
    all_goals (go_wp2_with fail; go_meet)
    all_goals first
      | exact ⟨_, rfl, rfl, m2, five_below (.int .i64 S.off) (.int .i64 S.del) (.int .i64 S.disp) (.int .i64 S.at_) (.int .i64 S.total) B2 hA.size⟩
      | exact ⟨_, rfl, rfl, m2, five_below (.int .i64 S.off) (.int .i64 S.del) (.int .i64 S.disp) (.int .i64 S.at_) (.int .i64 S.total) B2 B1.size⟩
      | exact ⟨_, rfl, rfl, heap_alloc_new v2 _, B2.alloc B2.size _⟩
  case rest =>
    obtain ⟨bk, rfl, rfl, hv4, hB4⟩ := hcut
    rename World => w4
    clear hh hA hl1 c2
    go_wp2_with fail
    (with_reducible refine (c4 _).mono ?_)
    rintro e w5 ⟨rfl, g5⟩
    have hv5 := kept hv4 g5
    have hB5 := hB4.trans (g5.mono hB4.size)
    clear hv4 hB4 g5 c4
    obtain ⟨f1, f2, f3, f4, f5, f6, f7, f8⟩ := F.out
    obtain ⟨s0', s1', s2', s3', s4'⟩ := five_in hv5
    have htd : S.del.tdiv 2 = S.del / 2 := Int.tdiv_eq_ediv_of_nonneg (by omega)
    have hlt := (Array.getElem?_eq_some_iff.1 hv5).1
    by_cases hd : S.off - o < 0
    all_goals
      go_upto_region 11 with fail
      have k0 := cell_regrown s0'
      have k1 := cell_regrown s1'
      have k2 := cell_regrown s2'
      have k3 := cell_regrown s3'
      have k4 := cell_regrown s4'
      have g1 := fun d os => again_of (c1 (grow (redrawn w5 d) os))
      have g3 := fun d os => again_of (c3 (grow (redrawn w5 d) os))
      refine wp_region_var 3 18 (ob := .cells #[.int .i64 0, .int .i64 0] 40 (0, 0)) (by kernel_rfl) (by kernel_rfl) rfl rfl (fun _ => rfl) rfl (by kernel_rfl) (by simp) (fun a v K hK => by go_simp; exact hK) ?_
      simp only [List.take_succ_cons, List.take_zero, List.drop_succ_cons, List.drop_zero]
      repeat (refine wpR_step (fun K hK => ?_); go_simp; first | (refine hK _ ?_; clear hK K) | (apply Exists.intro; refine ⟨fun _ => ?_, hK _ ?_⟩; (first | (with_reducible exact g1 _ _) | (with_reducible exact g3 _ _)); clear hK K))
      refine wpR_nil ⟨by simp, ?_⟩
      intro bx v hb1 hv hBv
      have hv6 := kept hv5 hBv
      have hB6 := hB5.trans (hBv.mono hB5.size)
      have hne : bk ≠ bx := by omega
      have fz0 : v.frozen? ⟨bx, 0, none⟩ = false := by simp [World.frozen?, hv]
      have fz1 : v.frozen? ⟨bx, 1, none⟩ = false := by simp [World.frozen?, hv]
      have lv := (Array.getElem?_eq_some_iff.1 hv).1
      have r0 : v.cell? ⟨bx, 0, none⟩ = some (.int .i64 0) := by simp [World.cell?, hv]
      have r1 : v.cell? ⟨bx, 1, none⟩ = some (.int .i64 0) := by simp [World.cell?, hv]
      have hx : ((v.setCell ⟨bx, 0, none⟩ (.int .i64 lo)).setCell ⟨bx, 1, none⟩ (.int .i64 hi)).heap[bx]? = some (.cells #[.int .i64 lo, .int .i64 hi] 40 (0, 0)) := block_set 1 (.int .i64 hi) (block_set 0 (.int .i64 lo) hv)
      have hs : ((v.setCell ⟨bx, 0, none⟩ (.int .i64 lo)).setCell ⟨bx, 1, none⟩ (.int .i64 hi)).heap[bk]? = _ := (block_far 1 (.int .i64 hi) hne).trans ((block_far 0 (.int .i64 lo) hne).trans hv6)
      have hBx := (hB6.setCell (p := ⟨bx, 0, none⟩) (Nat.le_trans hB5.size hb1) (.int .i64 lo)).setCell (p := ⟨bx, 1, none⟩) (Nat.le_trans hB5.size hb1) (.int .i64 hi)
      clear k0 k1 k2 k3 k4 g1 g3 c1 c3 hv hv6 hB6 hBv hv5 hB5 s0' s1' s2' s3' s4'
      go_upto_region 12 with fail
      generalize (v.setCell ⟨bx, 0, none⟩ (.int .i64 lo)).setCell ⟨bx, 1, none⟩ (.int .i64 hi) = v2 at *
      clear r0 r1 fz0 fz1
      obtain ⟨s0', s1', s2', s3', s4'⟩ := five_in hs
      have x0 : v2.cell? ⟨bx, 0, none⟩ = some (.int .i64 lo) := by simp [World.cell?, hx]
      have x1 : v2.cell? ⟨bx, 1, none⟩ = some (.int .i64 hi) := by simp [World.cell?, hx]
      go_wp2_with fail
      go_ret
      exact ⟨rfl, hBx⟩
set_option maxRecDepth 100000 in
theorem lifted (os : Os) (started : os.Started) (H : Type) (enc : TypeId × Value → H) :
    ReturnsInHanded {} Tryz.checked os 4 .any (Rows.sampleTrueSpec.pre6 enc Tryz.prog Tryz.f4 Rows.sampleTrueRow.domain false) (Rows.sampleTrueSpec.post enc Tryz.prog Tryz.f4 false true false false) := by
  refine returnsInHanded_of_change (C := Tryz.checked) own started (by kernel_rfl) Tryz.func4
    (ChangeSpec.witness6 (enc := enc) (C := Tryz.checked) false ⟨#[], #[.int .u64 0, .int .i32 0, .int .u32 0, .int .u32 0, .int .u32 0, .int .i8 0], []⟩ 8 (by kernel_rfl) (by kernel_rfl) (by kernel_rfl) (by kernel_rfl)) ?_
  intro W base args ds gs before hval0 hW hcnd _
  have hval : ∀ (j : Nat) t v, Tryz.f4.params[j]? = some t → args[j]? = some v → Value.okWide Tryz.prog W .any base t v := hval0
  have hW' := hW
  obtain ⟨p, q, hA0, hV, rfl, hfz, hnd⟩ := hW
  have hA : DataW.TrodAll enc Tryz.prog W 0 (fun _ => true) true Tryz.f4.params.toList args.toList ds p := hA0
  rw [Tryz.params4] at hA hval
  obtain ⟨v0, vs0, d0, ds0, p0, q0, hargs, rfl, rfl, h0, r0⟩ := trodAll_cons hA
  obtain ⟨v1, vs1, d1, ds1, p1, q1, rfl, rfl, rfl, h1, r1⟩ := trodAll_cons r0
  obtain ⟨v2, vs2, d2, ds2, p2, q2, rfl, rfl, rfl, h2, r2⟩ := trodAll_cons r1
  obtain ⟨v3, vs3, d3, ds3, p3, q3, rfl, rfl, rfl, h3, r3⟩ := trodAll_cons r2
  obtain ⟨v4, vs4, d4, ds4, p4, q4, rfl, rfl, rfl, h4, r4⟩ := trodAll_cons r3
  obtain ⟨v5, vs5, d5, ds5, p5, q5, rfl, rfl, rfl, h5, r5⟩ := trodAll_cons r4
  obtain ⟨rfl, rfl, rfl⟩ := trodAll_nil r5
  obtain rfl : args = #[v0, v1, v2, v3, v4, v5] := by cases args; simp_all
  obtain ⟨rfl, rfl⟩ := trodVars_none hV
  obtain ⟨a0, rfl, rfl, rfl, w0⟩ := open_int Tryz.underlying25 (hval 0 25 v0 rfl rfl) h0
  obtain ⟨a1, rfl, rfl, rfl, w1⟩ := open_int Tryz.underlying21 (hval 1 21 v1 rfl rfl) h1
  obtain ⟨a2, rfl, rfl, rfl, w2⟩ := open_int Tryz.underlying24 (hval 2 24 v2 rfl rfl) h2
  obtain ⟨a3, rfl, rfl, rfl, w3⟩ := open_int Tryz.underlying24 (hval 3 24 v3 rfl rfl) h3
  obtain ⟨a4, rfl, rfl, rfl, w4⟩ := open_int Tryz.underlying24 (hval 4 24 v4 rfl rfl) h4
  obtain ⟨a5, rfl, rfl, rfl, w5⟩ := open_int Tryz.underlying37 (hval 5 37 v5 rfl rfl) h5
  clear hA0 hval0
  refine (walk a0 a1 a2 a3 a4 a5 W w0 w1 w2 w3 w4 w5).mono fun e W' ⟨he, bel⟩ => ?_
  subst he
  exact ⟨_, rfl, _, _, _, [], _, [], hW', trodAll_mk1 (shut_bool Tryz.underlying4 _), (trodAll_cons_mk (shut_int Tryz.underlying25 w0) (trodAll_cons_mk (shut_int Tryz.underlying21 w1) (trodAll_cons_mk (shut_int Tryz.underlying24 w2) (trodAll_cons_mk (shut_int Tryz.underlying24 w3) (trodAll_cons_mk (shut_int Tryz.underlying24 w4) (trodAll_cons_mk (shut_int Tryz.underlying37 w5) trodAll_mk0)))))), rfl, bel.frame _, fun h => by cases h⟩

theorem over : Rows.sampleTrueRow.holds Tryz.pinned (OpenSpec.ofChange Rows.sampleTrueSpec) :=
  OpenClaim.holds_of_wide 4 Tryz.f4 rfl rfl rfl rfl rfl rfl rfl ⟨rfl, rfl, rfl, rfl, rfl⟩ rfl rfl rfl rfl rfl (by kernel_rfl) Tryz.func4 (by kernel_rfl)
    (of_decide_eq_true (by kernel_rfl)) (by unfold Func.isWrapper; first | (rw [if_pos (by decide +kernel)]; kernel_rfl) | (rw [if_neg (by decide +kernel)]; exact ⟨rfl, rfl⟩))
    (fun os started H enc _ => lifted os started H enc)

theorem proved : Rows.SampleTrueSaid := over
end Go.Proofs.YtlpcoaohgcgkiaaGreat.SampleTrue
