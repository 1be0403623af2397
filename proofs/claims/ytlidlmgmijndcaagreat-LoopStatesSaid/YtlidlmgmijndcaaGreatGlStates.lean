/- LoopStates: from each state it goes to those that the document's table has, and to no other one. No further condition. -/
import Derived.Test.YtlidlmgmijndcaaGreatGlStA
import Derived.Test.YtlidlmgmijndcaaGreatGlStB
import Derived.WalkKit
import Derived.WalkSpells
import Derived.WalkLawsBesides
import Derived.Lib.Hide
import Derived.Handy
import Derived.ProofKit
import Derived.OpenShut
import Derived.ShutString
import Derived.ChangeOld
import Derived.Below
namespace Go.Proofs.YtlidlmgmijndcaaGreat.LoopStates
open Go.RowKit Go.Sort Go.Proofs.YtlidlmgmijndcaaGreat.W
open Go.ChangeShapes Go.WideShapes Go.ChangeAt
open Go.ChangeMaps (open_string shut_string)
set_option linter.unusedVariables false
set_option linter.unusedSimpArgs false
theorem own : ownKnob Tryz.prog.godebug = none := by kernel_rfl
theorem laidOut : laidOutB Tryz.prog = true := by kernel_rfl
theorem gone_is {d : Dc} {g : Int} (h : d.at_ = 0) (g0 : 0 ≤ g ∧ g ≤ 65535) : goneL19 d (g * 4294967296) = g * 4294967296 := by
  unfold goneL19 subI
  rw [h, cutI_in _ (by omega) (by omega)]
  omega
theorem dc_eql (d : Dc) (w : World) : (binOp .eql 28 d.val d.val).run Tryz.prog w = .ok (.bool true) w := by
  unfold Dc.val
  simp [go_sem]
set_option maxRecDepth 100000 in
set_option maxHeartbeats 12800000 in
theorem walk (d : Dc) (o g n : Int) (w : World) (td : d.Typed) (wo : (Lit.int .i64 o).wf = true) (wg : (Lit.int .u16 g).wf = true) (wn : (Lit.int .u8 n).wf = true) :
    Calls Tryz.prog 7 #[d.val, .int .i64 o, .int .u16 g, .int .u8 n] w fun e w' => e = .returned (.bool true) ∧ Below w.heap.size w w' := by
  have o0 := bounds_i64 wo
  have g0 := u16_bounds wg
  have n0 := u8_bounds wn
  clear wo wg wn
  have c1 := std19_any
  have TP := std_params.typed
  have HL := std_loop
  generalize chkP stdC = p at *
  have hm : -9223372036854775807 ≤ p.maxrate := by have := HL.maxrate; omega
  have e4 : IntKind.i64.wrap (-p.step) = -p.step := by rw [HL.step]; exact IntWalk.i64_in _ (by omega)
  have v1 : IntKind.i64.wrap g = g := IntWalk.i64_in _ (by omega)
  have v2 : IntKind.i64.wrap (g * 4294967296) = g * 4294967296 := IntWalk.i64_in _ (by omega)
  have v3 : IntKind.i64.wrap n = n := IntWalk.i64_in _ (by omega)
  obtain ⟨x0, x1, x2, x3, x4, x5, x6⟩ := d
  by_cases s0 : x0 < 0
  · exact st_none0 p c1 x0 x1 x2 x3 x4 x5 x6 o g n (decide_eq_true s0) w
  by_cases s4 : 4 < x0
  · exact st_none1 p c1 x0 x1 x2 x3 x4 x5 x6 o g n (decide_eq_false s0) (decide_eq_true s4) w
  have td' : Dc.Typed ⟨x0, 0, x2, x3, x4, x5, x6⟩ := ⟨td.st, by dsimp only; omega, td.off, td.freq, td.jit, td.wan, td.rest⟩
  have cU := fun W => lpupd_any p TP hm ⟨x0, 0, x2, x3, x4, x5, x6⟩ td' o (g * 4294967296) n o0 (by omega) (by omega) W
  have hg : goneL19 ⟨x0, 0, x2, x3, x4, x5, x6⟩ (g * 4294967296) = g * 4294967296 := gone_is rfl g0
  have hfar := abs_far (T := p.step) o0 (by rw [HL.step]; decide)
  unfold updL at cU
  by_cases hp : (1 ≤ x0 ∧ x0 ≤ 4) ∧ p.panic < absI o
  · simp only [if_pos hp] at cU
    exact st_panic p c1 e4 x0 x1 x2 x3 x4 x5 x6 o g n v1 v2 v3 (decide_eq_false s0) (decide_eq_false s4) (bne_iff_ne.2 (by omega)) (dc_eql ⟨x0, 0, x2, x3, x4, x5, x6⟩) cU w
  simp only [if_neg hp, hg] at cU
  clear hp hg td td'
  by_cases f : p.step < absI o
  · simp only [if_pos f] at cU
    replace f := hfar.1 f
    clear hfar
    have hf : decide (p.step < o) = true ∨ (decide (p.step < o) = false ∧ decide (o < -p.step) = true) := by
      by_cases h : p.step < o
      · exact .inl (decide_eq_true h)
      · exact .inr ⟨decide_eq_false h, decide_eq_true (by omega)⟩
    clear f
    have hc : x0 = 0 ∨ x0 = 1 ∨ x0 = 2 ∨ x0 = 3 ∨ x0 = 4 := by omega
    rcases hc with rfl | rfl | rfl | rfl | rfl
    · simp [farL, stepL] at cU
      rcases hf with f1 | ⟨f1, f2⟩
      · exact st0_hi p c1 e4 _ _ _ _ _ _ _ _ _ _ _ o g n v1 v2 v3 f1 cU w
      · exact st0_lo p c1 e4 _ _ _ _ _ _ _ _ _ _ _ o g n v1 v2 v3 f1 f2 cU w
    · simp [farL, stepL] at cU
      rcases hf with f1 | ⟨f1, f2⟩
      · exact st1_hi p c1 e4 _ _ _ _ _ _ _ _ _ _ _ o g n v1 v2 v3 f1 cU w
      · exact st1_lo p c1 e4 _ _ _ _ _ _ _ _ _ _ _ o g n v1 v2 v3 f1 f2 cU w
    · by_cases h : g * 4294967296 < p.watch
      · have f3 := decide_eq_true h
        simp [farL, stepL, h] at cU
        rcases hf with f1 | ⟨f1, f2⟩
        · exact st2_hi_early p c1 e4 _ _ _ _ _ _ _ _ _ _ _ _ o g n v1 v2 v3 f1 f3 cU w
        · exact st2_lo_early p c1 e4 _ _ _ _ _ _ _ _ _ _ _ _ o g n v1 v2 v3 f1 f2 f3 cU w
      · have f3 := decide_eq_false h
        simp [farL, stepL, h] at cU
        rcases hf with f1 | ⟨f1, f2⟩
        · exact st2_hi_late p c1 e4 _ _ _ _ _ _ _ _ _ _ _ o g n v1 v2 v3 f1 f3 cU w
        · exact st2_lo_late p c1 e4 _ _ _ _ _ _ _ _ _ _ _ o g n v1 v2 v3 f1 f2 f3 cU w
    · simp [farL, stepL] at cU
      rcases hf with f1 | ⟨f1, f2⟩
      · exact st3_hi p c1 e4 _ _ _ _ _ _ _ _ _ _ _ _ o g n v1 v2 v3 f1 cU w
      · exact st3_lo p c1 e4 _ _ _ _ _ _ _ _ _ _ _ _ o g n v1 v2 v3 f1 f2 cU w
    · simp [farL, stepL] at cU
      rcases hf with f1 | ⟨f1, f2⟩
      · exact st4_hi p c1 e4 _ _ _ _ _ _ _ _ _ _ _ _ o g n v1 v2 v3 f1 cU w
      · exact st4_lo p c1 e4 _ _ _ _ _ _ _ _ _ _ _ _ o g n v1 v2 v3 f1 f2 cU w
  · simp only [if_neg f] at cU
    have f1 : decide (p.step < o) = false := decide_eq_false (fun h => f (hfar.2 (.inl h)))
    have f2 : decide (o < -p.step) = false := decide_eq_false (fun h => f (hfar.2 (.inr h)))
    clear hfar f
    have hc : x0 = 0 ∨ x0 = 1 ∨ x0 = 2 ∨ x0 = 3 ∨ x0 = 4 := by omega
    rcases hc with rfl | rfl | rfl | rfl | rfl
    · simp [nearL, takeL] at cU
      exact st0_near p c1 e4 _ _ _ _ _ _ _ _ _ _ _ o g n v1 v2 v3 f1 f2 cU w
    · simp [nearL, takeL] at cU
      exact st1_near p c1 e4 _ _ _ _ _ _ _ _ _ _ _ o g n v1 v2 v3 f1 f2 cU w
    · simp [nearL, takeL] at cU
      exact st2_near p c1 e4 _ _ _ _ _ _ _ _ _ _ _ o g n v1 v2 v3 f1 f2 cU w
    · by_cases h : g * 4294967296 < p.watch
      · have f3 := decide_eq_true h
        simp [nearL, takeL, h] at cU
        exact st3_near_early p c1 e4 _ _ _ _ _ _ _ _ _ _ _ _ o g n v1 v2 v3 f1 f2 f3 cU w
      · have f3 := decide_eq_false h
        simp [nearL, takeL, h] at cU
        exact st3_near_late p c1 e4 _ _ _ _ _ _ _ _ _ _ _ o g n v1 v2 v3 f1 f2 f3 cU w
    · simp [nearL, takeL] at cU
      exact st4_near p c1 e4 _ _ _ _ _ _ _ _ _ _ _ o g n v1 v2 v3 f1 f2 cU w
set_option maxRecDepth 100000 in
theorem lifted (os : Os) (started : os.Started) (H : Type) (enc : TypeId × Value → H) :
    ReturnsInHanded {} Tryz.checked os 7 .any (Rows.loopStatesSpec.pre6 enc Tryz.prog Tryz.f7 Rows.loopStatesRow.domain false) (Rows.loopStatesSpec.post enc Tryz.prog Tryz.f7 false true false false) := by
  refine returnsInHanded_of_change (C := Tryz.checked) own started (by kernel_rfl) Tryz.func7
    (ChangeSpec.witness6 (enc := enc) (C := Tryz.checked) false ⟨#[], #[.agg #[.int .i64 0, .int .i64 0, .int .i64 0, .int .i64 0, .int .i64 0, .int .i64 0, .int .i64 0], .int .i64 0, .int .u16 0, .int .u8 0], []⟩ 8 (by kernel_rfl) (by kernel_rfl) (by kernel_rfl) (by kernel_rfl)) ?_
  intro W base args ds gs before hval0 hW hcnd _
  have hval : ∀ (j : Nat) t v, Tryz.f7.params[j]? = some t → args[j]? = some v → Value.okWide Tryz.prog W .any base t v := hval0
  have hW' := hW
  obtain ⟨p, q, hA0, hV, rfl, hfz, hnd⟩ := hW
  have hA : DataW.TrodAll enc Tryz.prog W 0 (fun _ => true) true Tryz.f7.params.toList args.toList ds p := hA0
  rw [Tryz.params7] at hA hval
  obtain ⟨v0, vs0, d0, ds0, p0, q0, hargs, rfl, rfl, h0, r0⟩ := trodAll_cons hA
  obtain ⟨v1, vs1, d1, ds1, p1, q1, rfl, rfl, rfl, h1, r1⟩ := trodAll_cons r0
  obtain ⟨v2, vs2, d2, ds2, p2, q2, rfl, rfl, rfl, h2, r2⟩ := trodAll_cons r1
  obtain ⟨v3, vs3, d3, ds3, p3, q3, rfl, rfl, rfl, h3, r3⟩ := trodAll_cons r2
  obtain ⟨rfl, rfl, rfl⟩ := trodAll_nil r3
  obtain rfl : args = #[v0, v1, v2, v3] := by cases args; simp_all
  obtain ⟨rfl, rfl⟩ := trodVars_none hV
  have k0 := h0
  have lt0 : ∀ x ∈ p0, x.block < W.heap.size := by obtain ⟨m, hm⟩ := k0; exact DataW.trod_lt m _ _ _ hm
  obtain ⟨a0, rfl, w0⟩ := open_dc (hval 0 28 v0 rfl rfl) h0
  obtain ⟨a1, rfl, rfl, rfl, w1⟩ := open_int Tryz.underlying2 (hval 1 2 v1 rfl rfl) h1
  obtain ⟨a2, rfl, rfl, rfl, w2⟩ := open_int Tryz.underlying30 (hval 2 30 v2 rfl rfl) h2
  obtain ⟨a3, rfl, rfl, rfl, w3⟩ := open_int Tryz.underlying5 (hval 3 5 v3 rfl rfl) h3
  clear hA0 hval0
  refine (walk a0 a1 a2 a3 W w0 w1 w2 w3).mono fun e W' ⟨he, bel⟩ => ?_
  subst he
  exact ⟨_, rfl, _, _, _, [], _, [], hW', trodAll_mk1 (shut_bool Tryz.underlying4 _), (trodAll_cons_mk (Below.trod laidOut (by kernel_rfl) (of_decide_eq_true (by kernel_rfl)) k0 bel lt0) (trodAll_cons_mk (shut_int Tryz.underlying2 w1) (trodAll_cons_mk (shut_int Tryz.underlying30 w2) (trodAll_cons_mk (shut_int Tryz.underlying5 w3) trodAll_mk0)))), rfl, bel.frame _, fun h => by cases h⟩

theorem over : Rows.loopStatesRow.holds Tryz.pinned (OpenSpec.ofChange Rows.loopStatesSpec) :=
  OpenClaim.holds_of_wide 7 Tryz.f7 rfl rfl rfl rfl rfl rfl rfl ⟨rfl, rfl, rfl, rfl, rfl⟩ rfl rfl rfl rfl rfl (by kernel_rfl) Tryz.func7 (by kernel_rfl)
    (of_decide_eq_true (by kernel_rfl)) (by unfold Func.isWrapper; first | (rw [if_pos (by decide +kernel)]; kernel_rfl) | (rw [if_neg (by decide +kernel)]; exact ⟨rfl, rfl⟩))
    (fun os started H enc _ => lifted os started H enc)

theorem proved : Rows.LoopStatesSaid := over
end Go.Proofs.YtlidlmgmijndcaaGreat.LoopStates
