/- CombineMeans: weights, means and jitters of any offsets and distances are the document's. Bound of DOC.md. -/
import Derived.Test.YtekdablolacgfaaCqR
import Derived.Lib.QuietBelow
import Derived.WalkKit
import Derived.WalkSpells
import Derived.WalkLawsBesides
import Derived.Lib.Hide
import Derived.Handy
import Derived.ProofKit
import Derived.OpenShut
import Derived.ShutString
import Derived.ChangeOld
import Derived.Below
namespace Go.Proofs.Ytekdablolacgfaa.CombineMeans
open Go.Proofs.Ytekdablolacgfaa.W
open Go.ChangeShapes Go.WideShapes Go.ChangeAt Go.RowKit
open Go.ChangeMaps (open_string shut_string)
set_option linter.unusedVariables false
theorem own : ownKnob Try.prog.godebug = none := by kernel_rfl
theorem laidOut : laidOutB Try.prog = true := by kernel_rfl
open Go.Sort
set_option linter.unusedSimpArgs false
set_option maxRecDepth 100000 in
set_option maxHeartbeats 25600000 in
theorem walk (a0 : Option Addr) (len0 cap0 : Nat) (zs : List Int) (a1 : Option Addr) (len1 cap1 : Nat) (ys : List Int) (s : Sn) (about dd : Int) (w : World) (iw : IsRow .i64 w a0 len0 cap0 zs) (jw : IsRow .i64 w a1 len1 cap1 ys) (ts : s.Typed) (wa : (Lit.int .i64 about).wf = true) (wd : (Lit.int .i64 dd).wf = true) :
    Calls Try.prog 3 #[.slice a0 len0 cap0, .slice a1 len1 cap1, s.val, .int .i64 about, .int .i64 dd] w fun e w' => e = .returned (.bool true) ∧ Below w.heap.size w w' := by
  have ba := bounds_i64 wa
  have bd := bounds_i64 wd
  clear wa wd
  obtain ⟨o, ho, to_, so⟩ := iw.sl
  obtain ⟨d, hd, td, sd⟩ := jw.sl
  clear iw jw
  subst ho hd
  have cs := shown18_any
  unfold Sn.val
  have hx := heap_alloc_new w (.cells #[.int .i64 s.lo, .int .i64 s.hi] 24)
  have hB := (Below.refl w.heap.size w).alloc (Nat.le_refl _) (.cells #[.int .i64 s.lo, .int .i64 s.hi] 24)
  have X := Lib.hid (And.intro hx hB)
  clear hx hB
  by_cases g1 : 60 < o.length
  · have i1 : (60 : Int) < o.length := by omega
    clear so sd
    go_enter Try.func3, Try.ntmps3
    go_wp2_with fail
    (with_reducible refine (cs _).mono ?_)
    rintro e w1 ⟨rfl, B1⟩
    have BB := Lib.hid (X.out.2.trans (B1.mono X.out.2.size))
    clear B1
    go_wp2_with fail
    go_ret
    exact ⟨rfl, BB.out⟩
  have i1 : ¬ (60 : Int) < o.length := by omega
  by_cases g2 : 60 < d.length
  · have i2 : (60 : Int) < d.length := by omega
    clear so sd
    go_enter Try.func3, Try.ntmps3
    go_wp2_with fail
    (with_reducible refine (cs _).mono ?_)
    rintro e w1 ⟨rfl, B1⟩
    have BB := Lib.hid (X.out.2.trans (B1.mono X.out.2.size))
    clear B1
    go_wp2_with fail
    go_ret
    exact ⟨rfl, BB.out⟩
  have i2 : ¬ (60 : Int) < d.length := by omega
  have tO := fun x hx => i64_bounds (to_ x hx)
  have tD := fun x hx => i64_bounds (td x hx)
  have KA : ∀ W, Below w.heap.size w W → ∀ d' os, Below w.heap.size w (grow (redrawn W d') os) := fun W hW d' os => hW.trans ((below_regrown W d' os).mono hW.size)
  have K1 := fun W (hW : Below w.heap.size w W) => cmean_any o d (by omega) (by omega) tO tD s.lo s.hi ts.lo ts.hi W (so.kept fun b hb => hW.block b hb) (sd.kept fun b hb => hW.block b hb) (fun b hb => Nat.lt_of_lt_of_le hb hW.size) (fun b hb => Nat.lt_of_lt_of_le hb hW.size)
  have K2 := fun W (hW : Below w.heap.size w W) => rmean18_any o d (by omega) (by omega) tO tD s.lo s.hi ts.lo ts.hi W (so.kept fun b hb => hW.block b hb) (sd.kept fun b hb => hW.block b hb) (fun b hb => Nat.lt_of_lt_of_le hb hW.size) (fun b hb => Nat.lt_of_lt_of_le hb hW.size)
  have K3 := fun W (hW : Below w.heap.size w W) => cjit_any o d (by omega) (by omega) tO tD about ba W (so.kept fun b hb => hW.block b hb) (sd.kept fun b hb => hW.block b hb) (fun b hb => Nat.lt_of_lt_of_le hb hW.size) (fun b hb => Nat.lt_of_lt_of_le hb hW.size)
  have K4 := fun W (hW : Below w.heap.size w W) => rjit18_any o d (by omega) (by omega) tO tD about ba W (so.kept fun b hb => hW.block b hb) (sd.kept fun b hb => hW.block b hb) (fun b hb => Nat.lt_of_lt_of_le hb hW.size) (fun b hb => Nat.lt_of_lt_of_le hb hW.size)
  have K5 := fun W => cwt_any dd bd W
  have K6 : ∀ W : World, Calls Try.prog 13 #[.int .i64 dd] W fun e w' => e = .returned (.int .i64 (wtI dd)) ∧ Below W.heap.size W w' := fun W => (rwt18_any dd bd W).mono fun e w' h => And.intro h.1 (by rw [← h.2]; exact Below.refl _ _)
  generalize meanC o d s.lo s.hi = v1 at *
  generalize jitC o d about = v2 at *
  generalize wtI dd = v3 at *
  have KK := Lib.hid (And.intro KA (And.intro K1 (And.intro K2 (And.intro K3 K4))))
  clear so sd KA K1 K2 K3 K4 g1 g2 tO tD to_ td
  go_enter Try.func3, Try.ntmps3
  go_wp2_with fail
  generalize w.alloc (.cells #[.int .i64 s.lo, .int .i64 s.hi] 24) = w0 at *
  (with_reducible refine (cs _).mono ?_)
  rintro e w1 ⟨rfl, B1⟩
  obtain ⟨hx, hB⟩ := X.out
  have hx1 := (B1.block _ (Array.getElem?_eq_some_iff.1 hx).1).trans hx
  have BW := hB.trans (B1.mono hB.size)
  obtain ⟨s0, s1⟩ := two_in18 hx1
  have j0 := cell_regrown s0
  have j1 := cell_regrown s1
  obtain ⟨KA, K1, K2, K3, K4⟩ := KK.out
  have d1 := fun d' os => Calls.regrown_of (K1 (grow (redrawn w1 d') os) (KA w1 BW d' os))
  have d2 := fun d' os => Calls.regrown_of (K2 (grow (redrawn w1 d') os) (KA w1 BW d' os))
  have d3 := fun d' os => Calls.regrown_of (K3 (grow (redrawn w1 d') os) (KA w1 BW d' os))
  have d4 := fun d' os => Calls.regrown_of (K4 (grow (redrawn w1 d') os) (KA w1 BW d' os))
  have d5 := fun d' os => Calls.regrown_of (K5 (grow (redrawn w1 d') os))
  have d6 := fun d' os => Calls.regrown_of (K6 (grow (redrawn w1 d') os))
  have HB := Lib.hid BW
  clear s0 s1 hx hB hx1 B1 BW X KA K1 K2 K3 K4 K5 K6 KK cs
  go_upto_region 3 with fail
  refine wp_region_quiet_below (by kernel_rfl) (by kernel_rfl) ?_
  repeat (quiet_step (first | (with_reducible exact d1 _ _) | (with_reducible exact d2 _ _) | (with_reducible exact d3 _ _) | (with_reducible exact d4 _ _) | (with_reducible exact d5 _ _) | (with_reducible exact d6 _ _)))
  refine wpQuiet_nil ?_
  intro w4 hw
  replace hw := again18 hw
  have BF := Lib.hid (HB.out.trans (hw.mono HB.out.size))
  clear d1 d2 d3 d4 d5 d6 j0 j1 hw
  go_wp2_with fail
  go_ret
  exact ⟨rfl, BF.out⟩
set_option maxRecDepth 100000 in
theorem lifted (os : Os) (started : os.Started) (H : Type) (enc : TypeId × Value → H) :
    ReturnsInHanded {} Try.checked os 3 .any (Rows.combineMeansSpec.pre6 enc Try.prog Try.f3 Rows.combineMeansRow.domain false) (Rows.combineMeansSpec.post enc Try.prog Try.f3 false true false false) := by
  refine returnsInHanded_of_change (C := Try.checked) own started (by kernel_rfl) Try.func3
    (ChangeSpec.witness6 (enc := enc) (C := Try.checked) false ⟨#[], #[.slice none 0 0, .slice none 0 0, .agg #[.int .i64 0, .int .i64 0], .int .i64 0, .int .i64 0], []⟩ 8 (by kernel_rfl) (by kernel_rfl) (by kernel_rfl) (by kernel_rfl)) ?_
  intro W base args ds gs before hval0 hW hcnd _
  have hval : ∀ (j : Nat) t v, Try.f3.params[j]? = some t → args[j]? = some v → Value.okWide Try.prog W .any base t v := hval0
  have hW' := hW
  obtain ⟨p, q, hA0, hV, rfl, hfz, hnd⟩ := hW
  have hA : DataW.TrodAll enc Try.prog W 0 (fun _ => true) true Try.f3.params.toList args.toList ds p := hA0
  rw [Try.params3] at hA hval
  obtain ⟨v0, vs0, d0, ds0, p0, q0, hargs, rfl, rfl, h0, r0⟩ := trodAll_cons hA
  obtain ⟨v1, vs1, d1, ds1, p1, q1, rfl, rfl, rfl, h1, r1⟩ := trodAll_cons r0
  obtain ⟨v2, vs2, d2, ds2, p2, q2, rfl, rfl, rfl, h2, r2⟩ := trodAll_cons r1
  obtain ⟨v3, vs3, d3, ds3, p3, q3, rfl, rfl, rfl, h3, r3⟩ := trodAll_cons r2
  obtain ⟨v4, vs4, d4, ds4, p4, q4, rfl, rfl, rfl, h4, r4⟩ := trodAll_cons r3
  obtain ⟨rfl, rfl, rfl⟩ := trodAll_nil r4
  obtain rfl : args = #[v0, v1, v2, v3, v4] := by cases args; simp_all
  obtain ⟨rfl, rfl⟩ := trodVars_none hV
  obtain ⟨a0, len0, cap0, rfl⟩ := okWide_slice Try.underlying22 (hval 0 22 v0 rfl rfl)
  have k0 := h0
  have lt0 : ∀ x ∈ p0, x.block < W.heap.size := by obtain ⟨m, hm⟩ := k0; exact DataW.trod_lt m _ _ _ hm
  obtain ⟨z0, w0⟩ : ∃ zs, IsRow .i64 W a0 len0 cap0 zs := by
    obtain ⟨fuel, hf⟩ := h0
    rcases open_ints Try.underlying22 Try.underlying2 (by kernel_rfl) hf with ⟨hcs, _⟩ | ⟨x, l, c, zs, hcs, _, hl, hm, hz, _, hcell, hwz⟩
    · simp [Value.cells] at hcs
      obtain ⟨rfl, rfl, rfl⟩ := hcs
      exact ⟨[], .inl ⟨rfl, rfl, rfl, rfl⟩⟩
    · simp [Value.cells] at hcs
      obtain ⟨rfl, rfl, rfl⟩ := hcs
      exact ⟨zs, .inr ⟨_, rfl, hl, hm, by simpa using hz, hcell, hwz⟩⟩
  obtain ⟨a1, len1, cap1, rfl⟩ := okWide_slice Try.underlying22 (hval 1 22 v1 rfl rfl)
  have k1 := h1
  have lt1 : ∀ x ∈ p1, x.block < W.heap.size := by obtain ⟨m, hm⟩ := k1; exact DataW.trod_lt m _ _ _ hm
  obtain ⟨z1, w1⟩ : ∃ zs, IsRow .i64 W a1 len1 cap1 zs := by
    obtain ⟨fuel, hf⟩ := h1
    rcases open_ints Try.underlying22 Try.underlying2 (by kernel_rfl) hf with ⟨hcs, _⟩ | ⟨x, l, c, zs, hcs, _, hl, hm, hz, _, hcell, hwz⟩
    · simp [Value.cells] at hcs
      obtain ⟨rfl, rfl, rfl⟩ := hcs
      exact ⟨[], .inl ⟨rfl, rfl, rfl, rfl⟩⟩
    · simp [Value.cells] at hcs
      obtain ⟨rfl, rfl, rfl⟩ := hcs
      exact ⟨zs, .inr ⟨_, rfl, hl, hm, by simpa using hz, hcell, hwz⟩⟩
  have k2 := h2
  have lt2 : ∀ x ∈ p2, x.block < W.heap.size := by obtain ⟨m, hm⟩ := k2; exact DataW.trod_lt m _ _ _ hm
  obtain ⟨a2, rfl, w2⟩ := open_sp (hval 2 24 v2 rfl rfl) h2
  obtain ⟨a3, rfl, rfl, rfl, w3⟩ := open_int Try.underlying2 (hval 3 2 v3 rfl rfl) h3
  obtain ⟨a4, rfl, rfl, rfl, w4⟩ := open_int Try.underlying2 (hval 4 2 v4 rfl rfl) h4
  clear hA0 hval0
  refine (walk a0 len0 cap0 z0 a1 len1 cap1 z1 a2 a3 a4 W w0 w1 w2 w3 w4).mono fun e W' ⟨he, bel⟩ => ?_
  subst he
  exact ⟨_, rfl, _, _, _, [], _, [], hW', trodAll_mk1 (shut_bool Try.underlying4 _), (trodAll_cons_mk (Below.trod laidOut (by kernel_rfl) (of_decide_eq_true (by kernel_rfl)) k0 bel lt0) (trodAll_cons_mk (Below.trod laidOut (by kernel_rfl) (of_decide_eq_true (by kernel_rfl)) k1 bel lt1) (trodAll_cons_mk (Below.trod laidOut (by kernel_rfl) (of_decide_eq_true (by kernel_rfl)) k2 bel lt2) (trodAll_cons_mk (shut_int Try.underlying2 w3) (trodAll_cons_mk (shut_int Try.underlying2 w4) trodAll_mk0))))), rfl, bel.frame _, fun h => by cases h⟩

theorem over : Rows.combineMeansRow.holds Try.pinned (OpenSpec.ofChange Rows.combineMeansSpec) :=
  OpenClaim.holds_of_wide 3 Try.f3 rfl rfl rfl rfl rfl rfl rfl ⟨rfl, rfl, rfl, rfl, rfl⟩ rfl rfl rfl rfl rfl (by kernel_rfl) Try.func3 (by kernel_rfl)
    (of_decide_eq_true (by kernel_rfl)) (by unfold Func.isWrapper; first | (rw [if_pos (by decide +kernel)]; kernel_rfl) | (rw [if_neg (by decide +kernel)]; exact ⟨rfl, rfl⟩))
    (fun os started H enc _ => lifted os started H enc)

theorem proved : Rows.CombineMeansSaid := over
end Go.Proofs.Ytekdablolacgfaa.CombineMeans
