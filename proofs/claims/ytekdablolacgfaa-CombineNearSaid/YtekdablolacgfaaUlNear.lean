/- CombineNear: a nearer server weighs no less than a farther one; of two the mean is nearer to the nearer one's offset. No condition. -/
import Derived.Test.YtekdablolacgfaaCqZ
import Derived.Test.YtekdablolacgfaaRowS
import Derived.WalkKit
import Derived.WalkSpells
import Derived.WalkLawsBesides
import Derived.Lib.Hide
import Derived.Handy
import Derived.ProofKit
import Derived.OpenShut
import Derived.ShutString
import Derived.ChangeOld
import Derived.Below
namespace Go.Proofs.Ytekdablolacgfaa.CombineNear
open Go.Proofs.Ytekdablolacgfaa.W
open Go.ChangeShapes Go.WideShapes Go.ChangeAt Go.RowKit
open Go.ChangeMaps (open_string shut_string)
set_option linter.unusedVariables false
theorem own : ownKnob Try.prog.godebug = none := by kernel_rfl
theorem laidOut : laidOutB Try.prog = true := by kernel_rfl
open Go.Sort
set_option linter.unusedSimpArgs false
set_option maxRecDepth 100000 in
set_option maxHeartbeats 25600000 in
theorem walk (a b x y : Int) (w : World) (wa : (Lit.int .u32 a).wf = true) (wb : (Lit.int .u32 b).wf = true) (wx : (Lit.int .i32 x).wf = true) (wy : (Lit.int .i32 y).wf = true) :
    Calls Try.prog 6 #[.int .u32 a, .int .u32 b, .int .i32 x, .int .i32 y] w fun e w' => e = .returned (.bool true) ∧ Below w.heap.size w w' := by
  have ba := bounds_u32 wa
  have bb := bounds_u32 wb
  have bx := bounds_i32 wx
  have by_ := bounds_i32 wy
  clear wa wb wx wy
  obtain ⟨lo, hlo⟩ : ∃ lo, min a b = lo := ⟨_, rfl⟩
  obtain ⟨hi, hhi⟩ : ∃ hi, max a b = hi := ⟨_, rfl⟩
  have hlh : lo ≤ hi := by omega
  have blo : 0 ≤ lo ∧ lo ≤ 4294967295 := by omega
  have bhi : 0 ≤ hi ∧ hi ≤ 4294967295 := by omega
  have hmin := fun ts t => run_min18 .u32 a b lo hlo ts t
  have hmax := fun ts t => run_max18 .u32 a b hi hhi ts t
  obtain ⟨mn, hmn⟩ : ∃ mn, min x y = mn := ⟨_, rfl⟩
  obtain ⟨mx, hmx⟩ : ∃ mx, max x y = mx := ⟨_, rfl⟩
  have kmin := fun ts t => run_min18 .i32 x y mn hmn ts t
  have kmax := fun ts t => run_max18 .i32 x y mx hmx ts t
  have bmn : -2147483648 ≤ mn ∧ mn ≤ 2147483647 := by omega
  have bmx : -2147483648 ≤ mx ∧ mx ≤ 2147483647 := by omega
  obtain ⟨m, hm⟩ : ∃ m, meanC [x, y] [lo, hi] (-1125899906842624) 1125899906842624 = m := ⟨_, rfl⟩
  obtain ⟨n1, n2, n3, n4⟩ := near_two (by omega) (by omega) hlh (by omega) (by omega) hm
  have q1 := cwt_any lo (by omega)
  have q2 := cwt_any hi (by omega)
  have q3 := shown18_any
  have g1 := wt_mono hlh (by omega)
  have g2 := (wt_range hi (by omega)).1
  generalize wtI lo = W1 at *
  generalize wtI hi = W2 at *
  clear hlo hhi ba bb
  go_enter Try.func6, Try.ntmps6
  have hA := (Below.refl w.heap.size w).alloc (Nat.le_refl _) (.cells #[.int .i64 (-1125899906842624), .int .i64 1125899906842624] 24)
  have hs := heap_alloc_new w (.cells #[.int .i64 (-1125899906842624), .int .i64 1125899906842624] 24)
  go_upto_region 4 with fail
  generalize w.alloc (.cells #[.int .i64 (-1125899906842624), .int .i64 1125899906842624] 24) = w1 at *
  have hB := (hA.alloc hA.size (.cells #[.int .i64 x, .int .i64 y] 2))
  replace hB := hB.alloc hB.size (.cells #[.int .i64 lo, .int .i64 hi] 2)
  obtain ⟨z0, z1⟩ := two_in18 (laid18 (.cells #[.int .i64 lo, .int .i64 hi] 2) (laid18 (.cells #[.int .i64 x, .int .i64 y] 2) hs))
  have s1 := two_lit (heap_first w1 (.cells #[.int .i64 x, .int .i64 y] 2) (.cells #[.int .i64 lo, .int .i64 hi] 2))
  have s2 := two_lit (heap_second w1 (.cells #[.int .i64 x, .int .i64 y] 2) (.cells #[.int .i64 lo, .int .i64 hi] 2))
  have c1 := cmean_any [x, y] [lo, hi] (by simp) (by simp) (two_typed (by omega) (by omega)) (two_typed (by omega) (by omega)) (-1125899906842624) 1125899906842624 (by decide) (by decide) _ s1 s2 (fun b e => by subst e; simp; omega) (fun b e => by subst e; simp)
  rw [hm] at c1
  have HN := Lib.hid (And.intro n1 (And.intro n2 (And.intro n3 (And.intro n4 (And.intro g1 g2)))))
  clear s1 s2 hA hs hm n1 n2 n3 n4 g1 g2
  go_wp2_with fail
  (with_reducible refine c1.mono ?_)
  rintro e v2 ⟨rfl, h2⟩
  replace hB := hB.trans (h2.mono hB.size)
  clear h2 c1 z0 z1 hmin hmax
  have bm : -2147483650 ≤ m ∧ m ≤ 2147483647 := by have := HN.out; omega
  have BB := Lib.hid hB
  clear hB
  obtain ⟨d, hd⟩ : ∃ d, m - x = d := ⟨_, rfl⟩
  obtain ⟨f, hf⟩ : ∃ f, m - y = f := ⟨_, rfl⟩
  have bd : -4294967298 ≤ d ∧ d ≤ 4294967295 := by omega
  have bf : -4294967298 ≤ f ∧ f ≤ 4294967295 := by omega
  by_cases h1 : d < 0 <;> by_cases h2 : f < 0
  · have k1 : -d ≤ -f + 4 := by have := HN.out; omega
    have k2 : mn - 2 ≤ m := by have := HN.out; omega
    have k3 : m ≤ mx := by have := HN.out; omega
    have k4 : W2 ≤ W1 := HN.out.2.2.2.2.1
    have k5 : 1 ≤ W2 := HN.out.2.2.2.2.2
    go_upto_region 11 with fail
    clear hd hf hmn hmx HN
    go_wp2_with fail
    (with_reducible refine (q1 _).mono ?_)
    rintro e v3 ⟨rfl, g1⟩
    have B3 := Lib.hid (BB.out.trans (g1.mono BB.out.size))
    clear g1 BB q1
    go_wp2_with fail
    (with_reducible refine (q2 _).mono ?_)
    rintro e v4 ⟨rfl, g1⟩
    have B4 := Lib.hid (B3.out.trans (g1.mono B3.out.size))
    clear g1 B3
    go_wp2_with fail
    (with_reducible refine (q2 _).mono ?_)
    rintro e v5 ⟨rfl, g1⟩
    have B5 := Lib.hid (B4.out.trans (g1.mono B4.out.size))
    clear g1 B4 q2
    go_wp2_with fail
    (with_reducible refine (q3 _).mono ?_)
    rintro e v6 ⟨rfl, g1⟩
    have B6 := Lib.hid (B5.out.trans (g1.mono B5.out.size))
    clear g1 B5 q3
    go_wp2_with fail
    go_ret
    exact ⟨rfl, B6.out⟩
  · have k1 : -d ≤ f + 4 := by have := HN.out; omega
    have k2 : mn - 2 ≤ m := by have := HN.out; omega
    have k3 : m ≤ mx := by have := HN.out; omega
    have k4 : W2 ≤ W1 := HN.out.2.2.2.2.1
    have k5 : 1 ≤ W2 := HN.out.2.2.2.2.2
    go_upto_region 11 with fail
    clear hd hf hmn hmx HN
    go_wp2_with fail
    (with_reducible refine (q1 _).mono ?_)
    rintro e v3 ⟨rfl, g1⟩
    have B3 := Lib.hid (BB.out.trans (g1.mono BB.out.size))
    clear g1 BB q1
    go_wp2_with fail
    (with_reducible refine (q2 _).mono ?_)
    rintro e v4 ⟨rfl, g1⟩
    have B4 := Lib.hid (B3.out.trans (g1.mono B3.out.size))
    clear g1 B3
    go_wp2_with fail
    (with_reducible refine (q2 _).mono ?_)
    rintro e v5 ⟨rfl, g1⟩
    have B5 := Lib.hid (B4.out.trans (g1.mono B4.out.size))
    clear g1 B4 q2
    go_wp2_with fail
    (with_reducible refine (q3 _).mono ?_)
    rintro e v6 ⟨rfl, g1⟩
    have B6 := Lib.hid (B5.out.trans (g1.mono B5.out.size))
    clear g1 B5 q3
    go_wp2_with fail
    go_ret
    exact ⟨rfl, B6.out⟩
  · have k1 : d ≤ -f + 4 := by have := HN.out; omega
    have k2 : mn - 2 ≤ m := by have := HN.out; omega
    have k3 : m ≤ mx := by have := HN.out; omega
    have k4 : W2 ≤ W1 := HN.out.2.2.2.2.1
    have k5 : 1 ≤ W2 := HN.out.2.2.2.2.2
    go_upto_region 11 with fail
    clear hd hf hmn hmx HN
    go_wp2_with fail
    (with_reducible refine (q1 _).mono ?_)
    rintro e v3 ⟨rfl, g1⟩
    have B3 := Lib.hid (BB.out.trans (g1.mono BB.out.size))
    clear g1 BB q1
    go_wp2_with fail
    (with_reducible refine (q2 _).mono ?_)
    rintro e v4 ⟨rfl, g1⟩
    have B4 := Lib.hid (B3.out.trans (g1.mono B3.out.size))
    clear g1 B3
    go_wp2_with fail
    (with_reducible refine (q2 _).mono ?_)
    rintro e v5 ⟨rfl, g1⟩
    have B5 := Lib.hid (B4.out.trans (g1.mono B4.out.size))
    clear g1 B4 q2
    go_wp2_with fail
    (with_reducible refine (q3 _).mono ?_)
    rintro e v6 ⟨rfl, g1⟩
    have B6 := Lib.hid (B5.out.trans (g1.mono B5.out.size))
    clear g1 B5 q3
    go_wp2_with fail
    go_ret
    exact ⟨rfl, B6.out⟩
  · have k1 : d ≤ f + 4 := by have := HN.out; omega
    have k2 : mn - 2 ≤ m := by have := HN.out; omega
    have k3 : m ≤ mx := by have := HN.out; omega
    have k4 : W2 ≤ W1 := HN.out.2.2.2.2.1
    have k5 : 1 ≤ W2 := HN.out.2.2.2.2.2
    go_upto_region 11 with fail
    clear hd hf hmn hmx HN
    go_wp2_with fail
    (with_reducible refine (q1 _).mono ?_)
    rintro e v3 ⟨rfl, g1⟩
    have B3 := Lib.hid (BB.out.trans (g1.mono BB.out.size))
    clear g1 BB q1
    go_wp2_with fail
    (with_reducible refine (q2 _).mono ?_)
    rintro e v4 ⟨rfl, g1⟩
    have B4 := Lib.hid (B3.out.trans (g1.mono B3.out.size))
    clear g1 B3
    go_wp2_with fail
    (with_reducible refine (q2 _).mono ?_)
    rintro e v5 ⟨rfl, g1⟩
    have B5 := Lib.hid (B4.out.trans (g1.mono B4.out.size))
    clear g1 B4 q2
    go_wp2_with fail
    (with_reducible refine (q3 _).mono ?_)
    rintro e v6 ⟨rfl, g1⟩
    have B6 := Lib.hid (B5.out.trans (g1.mono B5.out.size))
    clear g1 B5 q3
    go_wp2_with fail
    go_ret
    exact ⟨rfl, B6.out⟩
set_option maxRecDepth 100000 in
theorem lifted (os : Os) (started : os.Started) (H : Type) (enc : TypeId × Value → H) :
    ReturnsInHanded {} Try.checked os 6 .any (Rows.combineNearSpec.pre6 enc Try.prog Try.f6 Rows.combineNearRow.domain false) (Rows.combineNearSpec.post enc Try.prog Try.f6 false true false false) := by
  refine returnsInHanded_of_change (C := Try.checked) own started (by kernel_rfl) Try.func6
    (ChangeSpec.witness6 (enc := enc) (C := Try.checked) false ⟨#[], #[.int .u32 0, .int .u32 0, .int .i32 0, .int .i32 0], []⟩ 8 (by kernel_rfl) (by kernel_rfl) (by kernel_rfl) (by kernel_rfl)) ?_
  intro W base args ds gs before hval0 hW hcnd _
  have hval : ∀ (j : Nat) t v, Try.f6.params[j]? = some t → args[j]? = some v → Value.okWide Try.prog W .any base t v := hval0
  have hW' := hW
  obtain ⟨p, q, hA0, hV, rfl, hfz, hnd⟩ := hW
  have hA : DataW.TrodAll enc Try.prog W 0 (fun _ => true) true Try.f6.params.toList args.toList ds p := hA0
  rw [Try.params6] at hA hval
  obtain ⟨v0, vs0, d0, ds0, p0, q0, hargs, rfl, rfl, h0, r0⟩ := trodAll_cons hA
  obtain ⟨v1, vs1, d1, ds1, p1, q1, rfl, rfl, rfl, h1, r1⟩ := trodAll_cons r0
  obtain ⟨v2, vs2, d2, ds2, p2, q2, rfl, rfl, rfl, h2, r2⟩ := trodAll_cons r1
  obtain ⟨v3, vs3, d3, ds3, p3, q3, rfl, rfl, rfl, h3, r3⟩ := trodAll_cons r2
  obtain ⟨rfl, rfl, rfl⟩ := trodAll_nil r3
  obtain rfl : args = #[v0, v1, v2, v3] := by cases args; simp_all
  obtain ⟨rfl, rfl⟩ := trodVars_none hV
  obtain ⟨a0, rfl, rfl, rfl, w0⟩ := open_int Try.underlying37 (hval 0 37 v0 rfl rfl) h0
  obtain ⟨a1, rfl, rfl, rfl, w1⟩ := open_int Try.underlying37 (hval 1 37 v1 rfl rfl) h1
  obtain ⟨a2, rfl, rfl, rfl, w2⟩ := open_int Try.underlying21 (hval 2 21 v2 rfl rfl) h2
  obtain ⟨a3, rfl, rfl, rfl, w3⟩ := open_int Try.underlying21 (hval 3 21 v3 rfl rfl) h3
  clear hA0 hval0
  refine (walk a0 a1 a2 a3 W w0 w1 w2 w3).mono fun e W' ⟨he, bel⟩ => ?_
  subst he
  exact ⟨_, rfl, _, _, _, [], _, [], hW', trodAll_mk1 (shut_bool Try.underlying4 _), (trodAll_cons_mk (shut_int Try.underlying37 w0) (trodAll_cons_mk (shut_int Try.underlying37 w1) (trodAll_cons_mk (shut_int Try.underlying21 w2) (trodAll_cons_mk (shut_int Try.underlying21 w3) trodAll_mk0)))), rfl, bel.frame _, fun h => by cases h⟩

theorem over : Rows.combineNearRow.holds Try.pinned (OpenSpec.ofChange Rows.combineNearSpec) :=
  OpenClaim.holds_of_wide 6 Try.f6 rfl rfl rfl rfl rfl rfl rfl ⟨rfl, rfl, rfl, rfl, rfl⟩ rfl rfl rfl rfl rfl (by kernel_rfl) Try.func6 (by kernel_rfl)
    (of_decide_eq_true (by kernel_rfl)) (by unfold Func.isWrapper; first | (rw [if_pos (by decide +kernel)]; kernel_rfl) | (rw [if_neg (by decide +kernel)]; exact ⟨rfl, rfl⟩))
    (fun os started H enc _ => lifted os started H enc)

theorem proved : Rows.CombineNearSaid := over
end Go.Proofs.Ytekdablolacgfaa.CombineNear
