/- LoopTicks: what is slewed second by second, and what is left, is what was to be slewed; it is slewed the right way, and gets less. No further condition. (Written by wip/genLp.py.) -/
import Derived.Test.YtlidlmgmijndcaaGreatLpZ
import Derived.Test.YtlidlmgmijndcaaGreatLpB
import Derived.Test.YtlidlmgmijndcaaGreatLpO
import Derived.WalkKit
import Derived.WalkSpells
import Derived.WalkLawsBesides
import Derived.Lib.Hide
import Derived.Handy
import Derived.ProofKit
import Derived.OpenShut
import Derived.ShutString
import Derived.ChangeOld
import Derived.Below
namespace Go.Proofs.YtlidlmgmijndcaaGreat.LoopTicks
open Go.RowKit Go.Sort Go.Proofs.YtlidlmgmijndcaaGreat.W
open Go.ChangeShapes Go.WideShapes Go.ChangeAt
open Go.ChangeMaps (open_string shut_string)
set_option linter.unusedVariables false
set_option linter.unusedSimpArgs false
theorem own : ownKnob Tryz.prog.godebug = none := by kernel_rfl
theorem laidOut : laidOutB Tryz.prog = true := by kernel_rfl
set_option maxRecDepth 100000 in
set_option maxHeartbeats 12800000 in
theorem walk (rest poll many : Int) (w : World) (wr_ : (Lit.int .i64 rest).wf = true) (wp : (Lit.int .u8 poll).wf = true) (wm : (Lit.int .u8 many).wf = true) :
    Calls Tryz.prog 5 #[.int .i64 rest, .int .u8 poll, .int .u8 many] w fun e w' => e = .returned (.bool true) ∧ Below w.heap.size w w' := by
  have hr := bounds_i64 wr_
  have p0 := u8_bounds wp
  have m0 := u8_bounds wm
  clear wr_ wp wm
  have cs := shown19_any
  obtain ⟨pn, rfl⟩ : ∃ pn : Nat, poll = (pn : Int) := ⟨poll.toNat, by omega⟩
  obtain ⟨mn, rfl⟩ : ∃ mn : Nat, many = (mn : Int) := ⟨many.toNat, by omega⟩
  obtain ⟨q, hq⟩ : ∃ q, pn % 20 = q := ⟨_, rfl⟩
  have hrem : Int.tmod (pn : Int) 20 = (q : Int) := by rw [← hq]; rfl
  have v1 : IntKind.i64.wrap (pn : Int) = (pn : Int) := IntWalk.i64_in _ (by omega)
  have v2 : IntKind.i64.wrap (mn : Int) = (mn : Int) := IntWalk.i64_in _ (by omega)
  have v3 : IntKind.i64.wrap (q : Int) = (q : Int) := IntWalk.i64_in _ (by omega)
  have hb := quo19 rest (by omega) (by omega)
  obtain ⟨r0, hr0⟩ : ∃ r0, Int.tdiv rest 2 = r0 := ⟨_, rfl⟩
  rw [hr0] at hb
  have v4 : IntKind.i64.wrap r0 = r0 := IntWalk.i64_in _ (by omega)
  have zd := heap_alloc_new w (.cells #[.int .i64 0, .int .i64 0, .int .i64 0, .int .i64 0, .int .i64 0, .int .i64 0, .int .i64 r0] 28)
  have hA := (Below.refl w.heap.size w).alloc (Nat.le_refl _) (.cells #[.int .i64 0, .int .i64 0, .int .i64 0, .int .i64 0, .int .i64 0, .int .i64 0, .int .i64 r0] 28)
  have HT := Lib.hid (fun (rs : Int) (b0 : -9223372036854775808 ≤ rs ∧ rs ≤ 9223372036854775807) => lptick_any ⟨0, 0, 0, 0, 0, 0, rs⟩ ⟨by dsimp only; omega, by dsimp only; omega, by dsimp only; omega, by dsimp only; omega, by dsimp only; omega, by dsimp only; omega, b0⟩ (q : Int) (by omega))
  clear hq p0 hr
  go_enter Tryz.func5, Tryz.ntmps5
  go_upto_region 2 with fail
  generalize w.alloc (.cells #[.int .i64 0, .int .i64 0, .int .i64 0, .int .i64 0, .int .i64 0, .int .i64 0, .int .i64 r0] 28) = w0 at *
  go_wp2_with fail
  go_loopw [8, 9, 11] (fun s i _ wr => ∃ (n : Nat) (rs : Int), n ≤ mn ∧ i = .int .i64 (n : Int) ∧ s = .int .i64 (r0 - rs) ∧ min r0 0 ≤ rs ∧ rs ≤ max r0 0 ∧ wr.heap[w.heap.size]? = some (.cells #[.int .i64 0, .int .i64 0, .int .i64 0, .int .i64 0, .int .i64 0, .int .i64 0, .int .i64 rs] 28 (0, 0)) ∧ Below w.heap.size w wr) (fun _ i _ _ => mn - (intOf i).toNat)
  case atStart => exact ⟨0, r0, Nat.zero_le _, rfl, by rw [Int.sub_self], by omega, by omega, zd, hA⟩
  case round =>
    obtain ⟨n, rs, hn, rfl, rfl, lo, hi, zd', hB⟩ := hrel
    clear zd hA
    by_cases hlt : n < mn
    · have i1 : (n : Int) < (mn : Int) := by omega
      have ct := HT.out rs (by omega)
      obtain ⟨t1, t2, t3, t4, t5⟩ := tick_is ⟨0, 0, 0, 0, 0, 0, rs⟩ (q : Int) (by dsimp only; omega) (by dsimp only; omega)
      have hval : (tickD ⟨0, 0, 0, 0, 0, 0, rs⟩ (q : Int)).val = .agg #[.int .i64 0, .int .i64 0, .int .i64 0, .int .i64 0, .int .i64 0, .int .i64 0, .int .i64 (tickD ⟨0, 0, 0, 0, 0, 0, rs⟩ (q : Int)).rest] := rfl
      rw [hval] at ct
      clear hval
      generalize (tickD ⟨0, 0, 0, 0, 0, 0, rs⟩ (q : Int)).rest = rs' at *
      generalize tickL ⟨0, 0, 0, 0, 0, 0, rs⟩ (q : Int) = t at *
      dsimp only at t1 t2 t3 t4 t5
      unfold Dc.val at ct
      dsimp only at ct
      obtain ⟨mx, hmx⟩ : ∃ mx, max rs 0 = mx := ⟨_, rfl⟩
      obtain ⟨mi, hmi⟩ : ∃ mi, min rs 0 = mi := ⟨_, rfl⟩
      have f1 := fun ts t W => run_max19 rs 0 mx hmx ts t W
      have f2 := fun ts t W => run_min19 rs 0 mi hmi ts t W
      rw [hmx] at t4
      rw [hmi] at t5
      obtain ⟨s', hs'⟩ : ∃ s', r0 - rs = s' := ⟨_, rfl⟩
      obtain ⟨s2, hs2⟩ : ∃ s2, r0 - rs' = s2 := ⟨_, rfl⟩
      have g1 : IntKind.i64.wrap (s' + t) = s2 := by rw [show s' + t = s2 by omega]; exact IntWalk.i64_in _ (by omega)
      have g2 : IntKind.i64.wrap (s2 + rs') = r0 := by rw [show s2 + rs' = r0 by omega]; exact IntWalk.i64_in _ (by omega)
      have d3 : decide (mx < rs') = false := decide_eq_false (by omega)
      have d4 : decide (rs' < mi) = false := decide_eq_false (by omega)
      have hcase : (0 < t ∧ decide (0 < t) = true ∧ decide (rs ≤ 0) = false ∧ decide (t < 0) = false) ∨ (t = 0) ∨ (t < 0 ∧ decide (0 < t) = false ∧ decide (t < 0) = true ∧ decide (0 ≤ rs) = false) := by
        rcases Int.lt_trichotomy t 0 with h | h | h
        · exact .inr (.inr ⟨h, decide_eq_false (by omega), decide_eq_true h, decide_eq_false (by have := t2 h; omega)⟩)
        · exact .inr (.inl h)
        · exact .inl ⟨h, decide_eq_true h, decide_eq_false (by have := t1 h; omega), decide_eq_false (by omega)⟩
      have RR := Lib.hid (show min r0 0 ≤ rs' ∧ rs' ≤ max r0 0 by omega)
      obtain ⟨y0, y1, y2, y3, y4, y5, y6⟩ := seven_in19 zd'
      have KK := Lib.hid (And.intro zd' hB)
      rw [hs']
      have HS2 := Lib.hid hs2
      clear zd' hB t1 t2 t3 t4 t5 hmx hmi lo hi hs' hs2 hb
      have CC := Lib.hid hcase
      clear hcase
      rcases CC.out with ⟨c0, c1, c2, c3⟩ | rfl | ⟨c0, c1, c2, c3⟩
      all_goals
        (try clear c0)
        (try simp only [Int.add_zero] at g1)
        go_wp2_with fail
        (with_reducible refine (ct _).mono ?_)
        rintro e w1 ⟨rfl, hw⟩
        obtain ⟨zd', hB⟩ := KK.out
        have ze := heap_alloc_new w1 (.cells #[.int .i64 0, .int .i64 0, .int .i64 0, .int .i64 0, .int .i64 0, .int .i64 0, .int .i64 rs'] 28)
        have zd2 := laid (.cells #[.int .i64 0, .int .i64 0, .int .i64 0, .int .i64 0, .int .i64 0, .int .i64 0, .int .i64 rs'] 28) (kept zd' hw)
        have B2 := (hB.trans (hw.mono hB.size)).alloc (hB.trans (hw.mono hB.size)).size (.cells #[.int .i64 0, .int .i64 0, .int .i64 0, .int .i64 0, .int .i64 0, .int .i64 0, .int .i64 rs'] 28)
        have zd3 := seven_new19 (.int .i64 0) (.int .i64 0) (.int .i64 0) (.int .i64 0) (.int .i64 0) (.int .i64 0) (.int .i64 rs') zd2
        have B3 := seven_below19 (.int .i64 0) (.int .i64 0) (.int .i64 0) (.int .i64 0) (.int .i64 0) (.int .i64 0) (.int .i64 rs') B2 (Nat.le_refl _)
        have Z2 := Lib.hid (And.intro zd2 (And.intro ze (And.intro zd3 (And.intro B3 B2))))
        clear y0 y1 y2 y3 y4 y5 y6 zd' hB zd2 B2 zd3 B3 ze hw ct
        go_upto_region 7 with fail
        obtain ⟨zd2, ze, zd3, B3, B2⟩ := Z2.out
        have S2 := Lib.hid B2
        clear B2
        clear Z2
        generalize w1.alloc (.cells #[.int .i64 0, .int .i64 0, .int .i64 0, .int .i64 0, .int .i64 0, .int .i64 0, .int .i64 rs'] 28) = w2 at *
        generalize w1.heap.size = be at *
        have th := thaw19 zd2
        obtain ⟨y0, y1, y2, y3, y4, y5, y6⟩ := seven_in19 zd2
        obtain ⟨x0, x1, x2, x3, x4, x5, x6⟩ := seven_in19 ze
        have S3 := Lib.hid (And.intro zd3 B3)
        have th0 := th 0
        have th1 := th 1
        have th2 := th 2
        have th3 := th 3
        have th4 := th 4
        have th5 := th 5
        have th6 := th 6
        clear zd3 B3 ze th
        go_upto_region 10 with fail
        clear th0 th1 th2 th3 th4 th5 th6 y0 y1 y2 y3 y4 y5 y6
        go_upto_region 11 with (refine at_store_dc19 rfl _ _ rfl _ rfl rfl zd2 rfl rfl (by simp [Value.oneCell']) ?_)
        have hz := setRow_heap w2 w.heap.size _ #[.int .i64 0, .int .i64 0, .int .i64 0, .int .i64 0, .int .i64 0, .int .i64 0, .int .i64 rs'] _ _ zd2
        have hb2 := below_setRow19 S2.out (Nat.le_refl _) #[.int .i64 0, .int .i64 0, .int .i64 0, .int .i64 0, .int .i64 0, .int .i64 0, .int .i64 rs']
        have S4 := Lib.hid (And.intro hz hb2)
        clear x0 x1 x2 x3 x4 x5 x6 zd2 hb2
        generalize w2.setRow w.heap.size #[.int .i64 0, .int .i64 0, .int .i64 0, .int .i64 0, .int .i64 0, .int .i64 0, .int .i64 rs'] = w3 at *
        obtain ⟨y0, y1, y2, y3, y4, y5, y6⟩ := seven_in19 hz
        clear hz
        go_wp2_with fail
        go_roundw
        case rel => exact ⟨n + 1, rs', by omega, by go_num, by rw [HS2.out], RR.out.1, RR.out.2, S4.out.1, S4.out.2⟩
        case measure => simp [intOf]; omega
    · have enl : n = mn := by omega
      clear zd'
      go_wp2_with fail
      (with_reducible refine (cs _).mono ?_)
      rintro e w1 ⟨rfl, hw⟩
      go_wp2_with fail
      go_ret
      exact ⟨rfl, hB.trans (hw.mono hB.size)⟩
set_option maxRecDepth 100000 in
theorem lifted (os : Os) (started : os.Started) (H : Type) (enc : TypeId × Value → H) :
    ReturnsInHanded {} Tryz.checked os 5 .any (Rows.loopTicksSpec.pre6 enc Tryz.prog Tryz.f5 Rows.loopTicksRow.domain false) (Rows.loopTicksSpec.post enc Tryz.prog Tryz.f5 false true false false) := by
  refine returnsInHanded_of_change (C := Tryz.checked) own started (by kernel_rfl) Tryz.func5
    (ChangeSpec.witness6 (enc := enc) (C := Tryz.checked) false ⟨#[], #[.int .i64 0, .int .u8 0, .int .u8 0], []⟩ 8 (by kernel_rfl) (by kernel_rfl) (by kernel_rfl) (by kernel_rfl)) ?_
  intro W base args ds gs before hval0 hW hcnd _
  have hval : ∀ (j : Nat) t v, Tryz.f5.params[j]? = some t → args[j]? = some v → Value.okWide Tryz.prog W .any base t v := hval0
  have hW' := hW
  obtain ⟨p, q, hA0, hV, rfl, hfz, hnd⟩ := hW
  have hA : DataW.TrodAll enc Tryz.prog W 0 (fun _ => true) true Tryz.f5.params.toList args.toList ds p := hA0
  rw [Tryz.params5] at hA hval
  obtain ⟨v0, vs0, d0, ds0, p0, q0, hargs, rfl, rfl, h0, r0⟩ := trodAll_cons hA
  obtain ⟨v1, vs1, d1, ds1, p1, q1, rfl, rfl, rfl, h1, r1⟩ := trodAll_cons r0
  obtain ⟨v2, vs2, d2, ds2, p2, q2, rfl, rfl, rfl, h2, r2⟩ := trodAll_cons r1
  obtain ⟨rfl, rfl, rfl⟩ := trodAll_nil r2
  obtain rfl : args = #[v0, v1, v2] := by cases args; simp_all
  obtain ⟨rfl, rfl⟩ := trodVars_none hV
  obtain ⟨a0, rfl, rfl, rfl, w0⟩ := open_int Tryz.underlying2 (hval 0 2 v0 rfl rfl) h0
  obtain ⟨a1, rfl, rfl, rfl, w1⟩ := open_int Tryz.underlying5 (hval 1 5 v1 rfl rfl) h1
  obtain ⟨a2, rfl, rfl, rfl, w2⟩ := open_int Tryz.underlying5 (hval 2 5 v2 rfl rfl) h2
  clear hA0 hval0
  refine (walk a0 a1 a2 W w0 w1 w2).mono fun e W' ⟨he, bel⟩ => ?_
  subst he
  exact ⟨_, rfl, _, _, _, [], _, [], hW', trodAll_mk1 (shut_bool Tryz.underlying4 _), (trodAll_cons_mk (shut_int Tryz.underlying2 w0) (trodAll_cons_mk (shut_int Tryz.underlying5 w1) (trodAll_cons_mk (shut_int Tryz.underlying5 w2) trodAll_mk0))), rfl, bel.frame _, fun h => by cases h⟩

theorem over : Rows.loopTicksRow.holds Tryz.pinned (OpenSpec.ofChange Rows.loopTicksSpec) :=
  OpenClaim.holds_of_wide 5 Tryz.f5 rfl rfl rfl rfl rfl rfl rfl ⟨rfl, rfl, rfl, rfl, rfl⟩ rfl rfl rfl rfl rfl (by kernel_rfl) Tryz.func5 (by kernel_rfl)
    (of_decide_eq_true (by kernel_rfl)) (by unfold Func.isWrapper; first | (rw [if_pos (by decide +kernel)]; kernel_rfl) | (rw [if_neg (by decide +kernel)]; exact ⟨rfl, rfl⟩))
    (fun os started H enc _ => lifted os started H enc)

theorem proved : Rows.LoopTicksSaid := over
end Go.Proofs.YtlidlmgmijndcaaGreat.LoopTicks
