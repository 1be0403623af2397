/- Layer 13's laws: what is standard; a sample that came in, opened; that an answer is one. -/
import Derived.Test.YtlpcoaohgcgkiaaGreatSmX
import Derived.Test.YtlpcoaohgcgkiaaGreatStY
import Derived.Test.YtlpcoaohgcgkiaaGreatQtB
import Derived.Test.YtlpcoaohgcgkiaaGreatCkD
import Derived.Test.YtlpcoaohgcgkiaaGreatStF
import Derived.WalkKit
import Derived.Lib.Hide
import Derived.Test.YtlpcoaohgcgkiaaGreatCkY
import Derived.Test.YtlpcoaohgcgkiaaGreatHdZ
import Derived.ChangeArms
import Derived.OpenShut
import Derived.ChangeOld
import Derived.Handy
import Derived.Deep.RegionHeld3
import Derived.Deep.DeepCutAuto
namespace Go.Proofs.YtlpcoaohgcgkiaaGreat.W
open Go.RowKit Go.Sort Go.ChangeShapes Go.WideShapes
set_option linter.unusedVariables false
set_option linter.unusedSimpArgs false
set_option maxRecDepth 100000 in
theorem open_smp {H : Type} {enc : TypeId × Value → H} {w : World} {base : Nat} {spare : Nat → Bool} {held : Bool} {r : Reach} {b0 : Nat} {v : Value} {d : DataW H} {p : List MemPlace}
    (hv : Value.okWide Tryz.prog w r b0 29 v) (h : DataW.Trod enc Tryz.prog w base spare held 29 v d p) : ∃ h : Smp, v = h.val ∧ h.Typed := by
  obtain ⟨zs, hl, rfl, hw⟩ := open_int_fields [.i64, .i64, .i64, .i64, .i64] Tryz.underlying29 (by kernel_rfl) (by kernel_rfl) rfl (by
    intro i f hf
    match i, hf with
    | 0, hf => simp at hf; subst hf; exact ⟨.i64, rfl, Tryz.underlying2⟩
    | 1, hf => simp at hf; subst hf; exact ⟨.i64, rfl, Tryz.underlying2⟩
    | 2, hf => simp at hf; subst hf; exact ⟨.i64, rfl, Tryz.underlying2⟩
    | 3, hf => simp at hf; subst hf; exact ⟨.i64, rfl, Tryz.underlying2⟩
    | 4, hf => simp at hf; subst hf; exact ⟨.i64, rfl, Tryz.underlying2⟩
    | n + 5, hf => simp at hf) hv h
  match zs, hl with
  | [off, del, disp, at_, total], _ =>
    refine ⟨⟨off, del, disp, at_, total⟩, rfl, ?_⟩
    constructor
    · have := bounds_i64 (hw 0 _ _ rfl rfl)
      dsimp only
      omega
    · have := bounds_i64 (hw 1 _ _ rfl rfl)
      dsimp only
      omega
    · have := bounds_i64 (hw 2 _ _ rfl rfl)
      dsimp only
      omega
    · have := bounds_i64 (hw 3 _ _ rfl rfl)
      dsimp only
      omega
    · have := bounds_i64 (hw 4 _ _ rfl rfl)
      dsimp only
      omega
set_option maxRecDepth 100000 in
set_option maxHeartbeats 6400000 in
theorem std13_any (w : World) : Calls Tryz.prog 9 #[] w fun e w' => e = .returned (chkP stdC).val ∧ Below w.heap.size w w' := by
  have c1 := gstd_any
  have c2 := gcheck_any stdC std_typed
  unfold Pm.val at *
  generalize stdC.val = sv at *
  generalize chkP stdC = p at *
  have hA := (Below.refl w.heap.size w).alloc (Nat.le_refl _) (.cells #[.int .i64 0, .int .i64 0, .int .i64 0, .int .i64 0, .int .i64 0, .int .i64 0, .int .i64 0, .int .i64 0, .int .i64 0, .int .i64 0, .int .i64 0, .int .i64 0] 23)
  have hr := heap_alloc_new w (.cells #[.int .i64 0, .int .i64 0, .int .i64 0, .int .i64 0, .int .i64 0, .int .i64 0, .int .i64 0, .int .i64 0, .int .i64 0, .int .i64 0, .int .i64 0, .int .i64 0] 23)
  go_enter Tryz.func9, Tryz.ntmps9
  go_wp2_with fail
  generalize w.alloc (.cells #[.int .i64 0, .int .i64 0, .int .i64 0, .int .i64 0, .int .i64 0, .int .i64 0, .int .i64 0, .int .i64 0, .int .i64 0, .int .i64 0, .int .i64 0, .int .i64 0] 23) = w1 at *
  (with_reducible refine (c1 _).mono ?_)
  rintro e w2 ⟨rfl, hB2⟩
  go_wp2_with fail
  (with_reducible refine (c2 _).mono ?_)
  rintro e w3 ⟨rfl, hB3⟩
  have hB13 := hB2.trans (hB3.mono hB2.size)
  have hr3 := (hB13.block _ (Array.getElem?_eq_some_iff.1 hr).1).trans hr
  have hB := hA.trans (hB13.mono hA.size)
  have l3 := (Array.getElem?_eq_some_iff.1 hr3).1
  have hB4 := hB.alloc hB.size (.cells #[.int .i64 p.step, .int .i64 p.watch, .int .i64 p.panic, .int .i64 p.maxrate, .int .i64 p.phi, .int .i64 p.maxdist, .int .i64 p.gate, .int .i64 p.minpoll, .int .i64 p.maxpoll, .int .i64 p.burst, .int .i64 p.minsane, .int .i64 p.minleft] 23)
  have hr4 := (Below.heap_alloc w3 (.cells #[.int .i64 p.step, .int .i64 p.watch, .int .i64 p.panic, .int .i64 p.maxrate, .int .i64 p.phi, .int .i64 p.maxdist, .int .i64 p.gate, .int .i64 p.minpoll, .int .i64 p.maxpoll, .int .i64 p.burst, .int .i64 p.minsane, .int .i64 p.minleft] 23) w.heap.size l3).trans hr3
  have hp4 := heap_alloc_new w3 (.cells #[.int .i64 p.step, .int .i64 p.watch, .int .i64 p.panic, .int .i64 p.maxrate, .int .i64 p.phi, .int .i64 p.maxdist, .int .i64 p.gate, .int .i64 p.minpoll, .int .i64 p.maxpoll, .int .i64 p.burst, .int .i64 p.minsane, .int .i64 p.minleft] 23)
  clear hA hr hB2 hB3 hB13 hr3 hB
  go_upto_region 2 with fail
  generalize w3.alloc (.cells #[.int .i64 p.step, .int .i64 p.watch, .int .i64 p.panic, .int .i64 p.maxrate, .int .i64 p.phi, .int .i64 p.maxdist, .int .i64 p.gate, .int .i64 p.minpoll, .int .i64 p.maxpoll, .int .i64 p.burst, .int .i64 p.minsane, .int .i64 p.minleft] 23) = w4 at *
  have hBf := put12_below (.int .i64 p.step) (.int .i64 p.watch) (.int .i64 p.panic) (.int .i64 p.maxrate) (.int .i64 p.phi) (.int .i64 p.maxdist) (.int .i64 p.gate) (.int .i64 p.minpoll) (.int .i64 p.maxpoll) (.int .i64 p.burst) (.int .i64 p.minsane) (.int .i64 p.minleft) hB4 (Nat.le_refl _)
  have hrf := put12_at (.int .i64 p.step) (.int .i64 p.watch) (.int .i64 p.panic) (.int .i64 p.maxrate) (.int .i64 p.phi) (.int .i64 p.maxdist) (.int .i64 p.gate) (.int .i64 p.minpoll) (.int .i64 p.maxpoll) (.int .i64 p.burst) (.int .i64 p.minsane) (.int .i64 p.minleft) hr4
  have E := Lib.hid (And.intro hrf hBf)
  obtain ⟨r0, r1, r2, r3, r4, r5, r6, r7, r8, r9, r10, r11⟩ := twelve_at hr4
  have fr := twelve_frozen hr4
  obtain ⟨a0, a1, a2, a3, a4, a5, a6, a7, a8, a9, a10, a11⟩ := twelve_at hp4
  clear hr4 hp4 hBf hrf hB4
  unfold put12 at E
  go_wp2_with fail
  obtain ⟨q0, q1, q2, q3, q4, q5, q6, q7, q8, q9, q10, q11⟩ := twelve_at E.out.1
  refine bodyPost_ret (v := .agg #[.int .i64 p.step, .int .i64 p.watch, .int .i64 p.panic, .int .i64 p.maxrate, .int .i64 p.phi, .int .i64 p.maxdist, .int .i64 p.gate, .int .i64 p.minpoll, .int .i64 p.maxpoll, .int .i64 p.burst, .int .i64 p.minsane, .int .i64 p.minleft]) ?_ rfl ?_
  · simp [results, Tryz.results9, go_sem, q0, q1, q2, q3, q4, q5, q6, q7, q8, q9, q10, q11]
  · exact ⟨rfl, E.out.2⟩

/-- Behind a call that ends in 'Below': a header's cells, and those of a sample's block, filled too. -/
theorem behind {v v' : World} {q b : Nat} {x0 x1 x2 x3 x4 x5 x6 x7 x8 x9 x10 x11 x12 o0 o1 o2 o3 o4 : Value} {t u : TypeId} (a0 a1 a2 a3 a4 : Value) (hh : v.heap[q]? = some (.cells #[x0, x1, x2, x3, x4, x5, x6, x7, x8, x9, x10, x11, x12] t (0, 0))) (hb : v.heap[b]? = some (.cells #[o0, o1, o2, o3, o4] u (0, 0))) (hn : q ≠ b) (g : Below v.heap.size v v') :
    v'.heap[q]? = some (.cells #[x0, x1, x2, x3, x4, x5, x6, x7, x8, x9, x10, x11, x12] t (0, 0)) ∧ v'.heap[b]? = some (.cells #[o0, o1, o2, o3, o4] u (0, 0)) ∧ b < v'.heap.size ∧ (∀ i, v'.frozen? ⟨b, i, none⟩ = false) ∧ (v'.cell? ⟨b, 0, none⟩ = some o0 ∧ v'.cell? ⟨b, 1, none⟩ = some o1 ∧ v'.cell? ⟨b, 2, none⟩ = some o2 ∧ v'.cell? ⟨b, 3, none⟩ = some o3 ∧ v'.cell? ⟨b, 4, none⟩ = some o4) ∧
    (((((v'.setCell ⟨b, 0, none⟩ a0).setCell ⟨b, 1, none⟩ a1).setCell ⟨b, 2, none⟩ a2).setCell ⟨b, 3, none⟩ a3).setCell ⟨b, 4, none⟩ a4).heap[q]? = some (.cells #[x0, x1, x2, x3, x4, x5, x6, x7, x8, x9, x10, x11, x12] t (0, 0)) ∧
    (((((v'.setCell ⟨b, 0, none⟩ a0).setCell ⟨b, 1, none⟩ a1).setCell ⟨b, 2, none⟩ a2).setCell ⟨b, 3, none⟩ a3).setCell ⟨b, 4, none⟩ a4).heap[b]? = some (.cells #[a0, a1, a2, a3, a4] u (0, 0)) := by
  have h1 := kept hh g
  have h2 := kept hb g
  exact ⟨h1, h2, (Array.getElem?_eq_some_iff.1 h2).1, five_thaw h2, five_in h2, (five_far (w := v') (p := b) (k := q) a0 a1 a2 a3 a4 hn).trans h1, five_block a0 a1 a2 a3 a4 h2⟩
set_option maxRecDepth 100000 in
set_option maxHeartbeats 6400000 in
theorem shown13_any (w : World) : Calls Tryz.prog 8 #[] w fun e w' => e = .returned (.bool true) ∧ Below w.heap.size w w' := by
  have c1 := std13_any
  have H := std_params
  generalize chkP stdC = p at *
  have th : Hd.Typed ⟨0, 0, 0, 0, 0, 0, 0, 0, 0, 0, 0, 42949672960, 42949672960⟩ := ⟨by decide, by decide, by decide, by decide, by decide, by decide, by decide, by decide, by decide, by decide, by decide, by decide, by decide⟩
  have c2 := smake_any p H.typed (-20) (by decide) _ th 17179869184 (by decide) 0 0 (by decide) (by decide)
  have e1 : makeE ⟨0, 0, 0, 0, 0, 0, 0, 0, 0, 0, 0, 42949672960, 42949672960⟩ 17179869184 0 = 0 := by decide
  have e2 : makeS p (-20) ⟨0, 0, 0, 0, 0, 0, 0, 0, 0, 0, 0, 42949672960, 42949672960⟩ 17179869184 0 0 = ⟨34359738368, 17179869184, (makeV p (-20) ⟨0, 0, 0, 0, 0, 0, 0, 0, 0, 0, 0, 42949672960, 42949672960⟩ 17179869184 0 0).disp, 0, 0⟩ := by
    unfold makeS
    rw [e1, if_pos rfl]
    rfl
  rw [e1, e2] at c2
  generalize (makeV p (-20) ⟨0, 0, 0, 0, 0, 0, 0, 0, 0, 0, 0, 42949672960, 42949672960⟩ 17179869184 0 0).disp = dd at *
  unfold Pm.val at *
  unfold Smp.val Hd.val at c2
  dsimp only at c2
  clear e1 e2 th H
  have hA := (Below.refl w.heap.size w).alloc (Nat.le_refl _) (.cells #[.int .i64 0, .int .i64 0, .int .i64 0, .int .i64 0, .int .i64 0, .int .i64 0, .int .u32 0, .int .u32 0, .int .u32 0, .int .u64 0, .int .u64 0, .int .u64 42949672960, .int .u64 42949672960] 27)
  have hh := heap_alloc_new w (.cells #[.int .i64 0, .int .i64 0, .int .i64 0, .int .i64 0, .int .i64 0, .int .i64 0, .int .u32 0, .int .u32 0, .int .u32 0, .int .u64 0, .int .u64 0, .int .u64 42949672960, .int .u64 42949672960] 27)
  go_enter Tryz.func8, Tryz.ntmps8
  go_upto_region 2 with fail
  generalize w.alloc (.cells #[.int .i64 0, .int .i64 0, .int .i64 0, .int .i64 0, .int .i64 0, .int .i64 0, .int .u32 0, .int .u32 0, .int .u32 0, .int .u64 0, .int .u64 0, .int .u64 42949672960, .int .u64 42949672960] 27) = w1 at *
  have hl1 := (Array.getElem?_eq_some_iff.1 hh).1
  go_cut [2, 3] (fun ps e wx => ∃ b : Nat, ps = .pointer (some ⟨b, 0, none⟩) ∧ e = .int .i64 0 ∧ wx.heap[b]? = some (.cells #[.int .i64 34359738368, .int .i64 17179869184, .int .i64 dd, .int .i64 0, .int .i64 0] 29 (0, 0)) ∧ Below w.heap.size w wx)
  case first =>
    have hhd : w1.drew.heap[w.heap.size]? = some (.cells #[.int .i64 0, .int .i64 0, .int .i64 0, .int .i64 0, .int .i64 0, .int .i64 0, .int .u32 0, .int .u32 0, .int .u32 0, .int .u64 0, .int .u64 0, .int .u64 42949672960, .int .u64 42949672960] 27 (0, 0)) := hh
    have hha : (w1.alloc (.cells #[.int .i64 0, .int .i64 0, .int .i64 0, .int .i64 0, .int .i64 0] 29)).drew.heap[w.heap.size]? = some (.cells #[.int .i64 0, .int .i64 0, .int .i64 0, .int .i64 0, .int .i64 0, .int .i64 0, .int .u32 0, .int .u32 0, .int .u32 0, .int .u64 0, .int .u64 0, .int .u64 42949672960, .int .u64 42949672960] 27 (0, 0)) := laid (.cells #[.int .i64 0, .int .i64 0, .int .i64 0, .int .i64 0, .int .i64 0] 29) hh
    have oba : (w1.alloc (.cells #[.int .i64 0, .int .i64 0, .int .i64 0, .int .i64 0, .int .i64 0] 29)).drew.heap[w1.heap.size]? = some (.cells #[.int .i64 0, .int .i64 0, .int .i64 0, .int .i64 0, .int .i64 0] 29 (0, 0)) := heap_alloc_new w1 (.cells #[.int .i64 0, .int .i64 0, .int .i64 0, .int .i64 0, .int .i64 0] 29)
    have Ba : Below w.heap.size w (w1.alloc (.cells #[.int .i64 0, .int .i64 0, .int .i64 0, .int .i64 0, .int .i64 0] 29)).drew := (hA.alloc hA.size (.cells #[.int .i64 0, .int .i64 0, .int .i64 0, .int .i64 0, .int .i64 0] 29)).drew
    have Bd : Below w.heap.size w w1.drew := hA.drew
    have K0 := thirteen_in hhd
    have K1 := thirteen_in hha
    go_region_held3 (fun w' => w'.cell? ⟨w.heap.size, 0, none⟩ = some (.int .i64 0) ∧ w'.cell? ⟨w.heap.size, 1, none⟩ = some (.int .i64 0) ∧ w'.cell? ⟨w.heap.size, 2, none⟩ = some (.int .i64 0) ∧ w'.cell? ⟨w.heap.size, 3, none⟩ = some (.int .i64 0) ∧ w'.cell? ⟨w.heap.size, 4, none⟩ = some (.int .i64 0) ∧ w'.cell? ⟨w.heap.size, 5, none⟩ = some (.int .i64 0) ∧ w'.cell? ⟨w.heap.size, 6, none⟩ = some (.int .u32 0) ∧ w'.cell? ⟨w.heap.size, 7, none⟩ = some (.int .u32 0) ∧ w'.cell? ⟨w.heap.size, 8, none⟩ = some (.int .u32 0) ∧ w'.cell? ⟨w.heap.size, 9, none⟩ = some (.int .u64 0) ∧ w'.cell? ⟨w.heap.size, 10, none⟩ = some (.int .u64 0) ∧ w'.cell? ⟨w.heap.size, 11, none⟩ = some (.int .u64 42949672960) ∧ w'.cell? ⟨w.heap.size, 12, none⟩ = some (.int .u64 42949672960))
      (with_reducible assumption)
      (first
        | (go_at_call 9; refine (c1 _).mono ?_; rintro e v1 ⟨rfl, g1⟩; first
            | (have hh1 := kept hhd g1; have B1 := Bd.trans (g1.mono Bd.size); have K2 := thirteen_in hh1; have K3 := thirteen_in (laid (.cells #[.int .i64 0, .int .i64 0, .int .i64 0, .int .i64 0, .int .i64 0] 29) hh1); have ob1 := heap_alloc_new v1 (.cells #[.int .i64 0, .int .i64 0, .int .i64 0, .int .i64 0, .int .i64 0] 29); have hn : w.heap.size ≠ v1.heap.size := (by have := (Array.getElem?_eq_some_iff.1 hh1).1; omega))
            | (have hh1 := kept hha g1; have B1 := Ba.trans (g1.mono Ba.size); have K2 := thirteen_in hh1; have ob1 := kept oba g1; have hn : w.heap.size ≠ w1.heap.size := (by omega)))
        | (go_at_call 6; refine (c2 _).mono ?_; rintro e v2 ⟨rfl, g2⟩; first
            | (have B2 := B1.trans (g2.mono B1.size); obtain ⟨hh2, ob2, ol2, fz2, ⟨r0, r1, r2, r3, r4⟩, m1, m2⟩ := behind (.int .i64 34359738368) (.int .i64 17179869184) (.int .i64 dd) (.int .i64 0) (.int .i64 0) hh1 ob1 hn g2; have K4 := thirteen_in hh2; have K5 := thirteen_in m1)
            | (have B2 := (B1.alloc B1.size (.cells #[.int .i64 0, .int .i64 0, .int .i64 0, .int .i64 0, .int .i64 0] 29)).trans (g2.mono (B1.alloc B1.size (.cells #[.int .i64 0, .int .i64 0, .int .i64 0, .int .i64 0, .int .i64 0] 29)).size); obtain ⟨hh2, ob2, ol2, fz2, ⟨r0, r1, r2, r3, r4⟩, m1, m2⟩ := behind (.int .i64 34359738368) (.int .i64 17179869184) (.int .i64 dd) (.int .i64 0) (.int .i64 0) (laid (.cells #[.int .i64 0, .int .i64 0, .int .i64 0, .int .i64 0, .int .i64 0] 29) hh1) ob1 hn g2; have K4 := thirteen_in hh2; have K5 := thirteen_in m1)
            | (have B2 := B1.trans (g2.mono B1.size); have hh2 := kept hh1 g2; have K4 := thirteen_in hh2; have K5 := thirteen_in (laid (.cells #[.int .i64 34359738368, .int .i64 17179869184, .int .i64 dd, .int .i64 0, .int .i64 0] 29) hh2); have K6 := thirteen_in (laid (.cells #[.int .i64 0, .int .i64 0, .int .i64 0, .int .i64 0, .int .i64 0] 29) hh2))))
    all_goals (go_wp2_with fail; go_meet)
    all_goals first
      | exact ⟨_, rfl, rfl, m2, five_below (.int .i64 34359738368) (.int .i64 17179869184) (.int .i64 dd) (.int .i64 0) (.int .i64 0) B2 hA.size⟩
      | exact ⟨_, rfl, rfl, m2, five_below (.int .i64 34359738368) (.int .i64 17179869184) (.int .i64 dd) (.int .i64 0) (.int .i64 0) B2 B1.size⟩
      | exact ⟨_, rfl, rfl, heap_alloc_new v2 _, B2.alloc B2.size _⟩
  case rest =>
    obtain ⟨b, rfl, rfl, hv4, hB4⟩ := hcut
    obtain ⟨s0, s1, s2, s3, s4⟩ := five_in hv4
    go_wp2_with fail
    go_ret
    exact ⟨rfl, hB4⟩
end Go.Proofs.YtlpcoaohgcgkiaaGreat.W
