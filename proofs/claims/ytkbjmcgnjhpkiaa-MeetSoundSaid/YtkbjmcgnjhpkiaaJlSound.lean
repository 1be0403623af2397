/- MeetSound: if more than half of all spans have one number in them, the span of most has it in it, and something is selected. No further condition. -/
import Derived.Test.YtkbjmcgnjhpkiaaMtZ
import Derived.WalkKit
import Derived.WalkSpells
import Derived.WalkLawsBesides
import Derived.Lib.Hide
import Derived.Handy
import Derived.ProofKit
import Derived.OpenShut
import Derived.ShutString
import Derived.ChangeOld
import Derived.Below
namespace Go.Proofs.Ytkbjmcgnjhpkiaa.MeetSound
open Go.RowKit Go.Sort Go.Proofs.Ytkbjmcgnjhpkiaa.W
open Go.ChangeShapes Go.WideShapes Go.ChangeAt
open Go.ChangeMaps (open_string shut_string)
set_option linter.unusedVariables false
set_option linter.unusedSimpArgs false
theorem own : ownKnob Try.prog.godebug = none := by kernel_rfl
theorem laidOut : laidOutB Try.prog = true := by kernel_rfl
set_option maxRecDepth 100000 in
set_option maxHeartbeats 12800000 in
theorem walk (v : Value) (l : List Cd) (truth : Int) (w : World) (hv : SlAt (fun b => b < w.heap.size) 3 cdC w v l) (tl : ∀ c ∈ l, c.Typed) (hl : l.length ≤ maxLen) (vx : Option Addr) (n0 vc : Nat) (hve : v = .slice vx n0 vc) (hcap : n0 ≤ vc ∧ vc ≤ maxLen) (wt : (Lit.int .i64 truth).wf = true) :
    Calls Try.prog 3 #[v, .int .i64 truth] w fun e w' => e = .returned (.bool true) ∧ Below w.heap.size w w' := by
  have t0 := bounds_i64 wt
  have hm : l.length ≤ 9223372036854775807 := by unfold maxLen at hl; omega
  have cs := shown16_any
  have HV := Lib.hid hv
  obtain ⟨sx, sc, hve'⟩ := hv.slice
  obtain ⟨rfl, rfl, rfl⟩ : sx = vx ∧ l.length = n0 ∧ sc = vc := by rw [hve'] at hve; exact Value.slice.inj hve
  subst hve'
  have k1 := mchk_any l tl w hv (fun b hb => hb)
  by_cases hc : chkC l = 0
  · skip
    rw [hc] at k1
    have h10 : l.length ≤ 10 := by
      unfold chkC at hc
      split at hc
      · cases hc
      · rename_i g
        omega
    have hok : ∀ c ∈ l, c.Ok := by
      unfold chkC at hc
      split at hc
      · cases hc
      · rename_i g
        intro c hcm
        exact Classical.byContradiction fun hn => g (.inr ⟨c, hcm, hn⟩)
    have i10 : ¬ (10 : Int) < l.length := by omega
    have KD := Lib.hid (fun x x0 W (hB : Below w.heap.size w W) => mdep_any l tl hc x x0 W (HV.out.kept hB.block) (fun b hb => Nat.lt_of_lt_of_le hb hB.size))
    have KJ := Lib.hid (fun W (hB : Below w.heap.size w W) => mmaj_any l tl hc W (HV.out.kept hB.block) (fun b hb => Nat.lt_of_lt_of_le hb hB.size))
    have KM := Lib.hid (fun W (hB : Below w.heap.size w W) => mmeet_any l tl hc W (HV.out.kept hB.block) (fun b hb => Nat.lt_of_lt_of_le hb hB.size))
    have KS := Lib.hid (fun W (hB : Below w.heap.size w W) => msel_any l tl hc W (HV.out.kept hB.block) (fun b hb => Nat.lt_of_lt_of_le hb hB.size))
    have hd10 : depN l truth ≤ 10 := Nat.le_trans (dep_le l truth) h10
    have kd := KD.out truth t0
    by_cases hdd : 2 * depN l truth ≤ l.length
    · generalize depN l truth = d at *
      have hwr : IntKind.i64.wrap (2 * (d : Int)) = 2 * (d : Int) := by rw [IntKind.wrap_i64]; omega
      have hle : 2 * (d : Int) ≤ (l.length : Int) := by omega
      clear KJ KM KS KD hok hc hv hve hcap hl tl HV
      go_enter Try.func3, Try.ntmps3
      go_wp2_with fail
      (with_reducible refine k1.mono ?_)
      rintro e w1 ⟨rfl, B1⟩
      clear k1
      go_wp2_with fail
      (with_reducible refine (cs _).mono ?_)
      rintro e w2 ⟨rfl, hb2⟩
      have B2 := B1.trans (hb2.mono B1.size)
      clear hb2 B1
      have kd := kd _ B2
      go_wp2_with fail
      (with_reducible refine (kd).mono ?_)
      rintro e w3 ⟨rfl, hb3⟩
      have B3 := B2.trans (hb3.mono B2.size)
      clear hb3 B2
      go_wp2_with fail
      go_ret
      exact ⟨rfl, B3⟩
    · obtain ⟨a, b, hj, ha, hb⟩ := maj_some (l := l) (x := truth) (by omega)
      obtain ⟨s, hsp, hs1, hs2⟩ := span_some hj
      have hsel := sel_some hs1 hs2
      have hsL : selL l = selP l s := by unfold selL; rw [hsp]
      rw [hj] at KJ
      rw [hsp, hsL] at KS
      have KJ' : Hid (∀ W, Below w.heap.size w W → Calls Try.prog 14 #[.slice sx l.length sc] W fun e w' => e = .returned (.tuple #[.agg #[.int .i64 a, .int .i64 b], .bool true]) ∧ Below W.heap.size W w') := Lib.hid KJ.out
      have KS' : Hid (∀ W, Below w.heap.size w W → Calls Try.prog 15 #[.slice sx l.length sc] W fun e w' => ∃ u, e = .returned (.tuple #[.agg #[.int .i64 s.1, .int .i64 s.2], u, .bool true]) ∧ SlAt (fun b => W.heap.size ≤ b ∧ b < w'.heap.size) 1 plE w' u (selP l s) ∧ Below W.heap.size W w') := Lib.hid KS.out
      generalize selP l s = P at *
      generalize depN l truth = d at *
      have hwr : IntKind.i64.wrap (2 * (d : Int)) = 2 * (d : Int) := by rw [IntKind.wrap_i64]; omega
      have hle : ¬ 2 * (d : Int) ≤ (l.length : Int) := by omega
      have hpl : (0 : Int) < (P.length : Int) := by omega
      clear KJ KM KS KD hok hc hv hve hcap hl tl HV hj hsp hsL hs1 hs2 hsel hdd
      go_enter Try.func3, Try.ntmps3
      go_wp2_with fail
      (with_reducible refine k1.mono ?_)
      rintro e w1 ⟨rfl, B1⟩
      clear k1
      go_wp2_with fail
      (with_reducible refine (cs _).mono ?_)
      rintro e w2 ⟨rfl, hb2⟩
      have B2 := B1.trans (hb2.mono B1.size)
      clear hb2 B1
      have kd := kd _ B2
      go_wp2_with fail
      (with_reducible refine (kd).mono ?_)
      rintro e w3 ⟨rfl, hb3⟩
      have B3 := B2.trans (hb3.mono B2.size)
      clear hb3 B2
      have kj := KJ'.out _ B3
      go_wp2_with fail
      (with_reducible refine (kj).mono ?_)
      rintro e w4 ⟨rfl, hb4⟩
      have B4 := B3.trans (hb4.mono B3.size)
      clear hb4 B3
      have B4' := B4.alloc B4.size (.cells #[.int .i64 a, .int .i64 b] 31)
      have hz := heap_alloc_new w4 (.cells #[.int .i64 a, .int .i64 b] 31)
      go_upto_region 6 with fail
      generalize w4.alloc (.cells #[.int .i64 a, .int .i64 b] 31) = w5 at *
      have ks := KS'.out _ B4'
      go_wp2_with fail
      (with_reducible refine ks.mono ?_)
      rintro e w6 ⟨u, rfl, hu, hb6⟩
      obtain ⟨ux, uc, rfl⟩ := hu.slice
      have B6 := B4'.trans (hb6.mono B4'.size)
      have hz6 := laid (.cells #[.int .i64 s.1, .int .i64 s.2] 31) (kept hz hb6)
      have B7 := Lib.hid (B6.alloc B6.size (.cells #[.int .i64 s.1, .int .i64 s.2] 31))
      clear hu hb6 B6 B4' ks hz B4
      go_upto_region 7 with fail
      generalize w6.alloc (.cells #[.int .i64 s.1, .int .i64 s.2] 31) = w7 at *
      have q0 : w7.cell? ⟨w4.heap.size, 0, none⟩ = some (.int .i64 a) := by simp [World.cell?, hz6]
      have q1 : w7.cell? ⟨w4.heap.size, 1, none⟩ = some (.int .i64 b) := by simp [World.cell?, hz6]
      clear hz6
      go_wp2_with fail
      go_ret
      exact ⟨by first | rfl | (simp; omega), B7.out⟩
  · skip
    have h1 : chkC l = 1 := by
      unfold chkC at hc ⊢
      split
      · rfl
      · rename_i g
        exact absurd (if_neg g) hc
    rw [h1] at k1
    have hne : l ≠ [] := by
      rintro rfl
      exact hc (by unfold chkC; rw [if_neg]; simp)
    obtain ⟨m, hmn⟩ : ∃ m : Nat, min l.length 20 = m := ⟨_, rfl⟩
    have hmn' : min (l.length : Int) 20 = (m : Int) := by omega
    have rm := fun ts t W => run_min16 (l.length : Int) 20 m hmn' ts t W
    obtain ⟨rs, sl⟩ := cut16 HV.out hne hcap.1 (m := m) (by omega)
    have hcm : chkC (l.take m) = 1 := by
      by_cases h10 : 10 < l.length
      · unfold chkC
        rw [if_pos (.inl (by rw [List.length_take]; omega))]
      · rw [List.take_of_length_le (by omega), h1]
    have hlm : (l.take m).length ≤ 100000 := by rw [List.length_take]; omega
    have K3 := Lib.hid (fun W (hB : Below w.heap.size w W) => theirs16_any (l.take m) hlm (F := fun b => b < w.heap.size) (v := .slice sx m sc) W (sl.kept hB.block) (fun b hb => Nat.lt_of_lt_of_le hb hB.size))
    have K4 := Lib.hid (fun (u : Value) (B : Nat) W (hs : SlAt (fun b => B ≤ b ∧ b < W.heap.size) 3 cdC W u (l.take m)) => rchk16_any (l.take m) hlm W hs (fun b hb => hb.2))
    rw [hcm] at K4
    have hl0 : (l.length : Int) ≠ 0 := by have := List.length_pos_iff.2 hne; omega
    have hlz : ((l.length : Int) == 0) = false := beq_eq_false_iff_ne.2 hl0
    clear hv hc hcm sl hve hcap tl hne hmn hl hm hlm h1 HV hl0
    go_enter Try.func3, Try.ntmps3
    go_wp2_with fail
    (with_reducible refine k1.mono ?_)
    rintro e w1 ⟨rfl, hb1⟩
    have k3 := K3.out w1 hb1
    clear k1
    go_wp2_with fail
    (with_reducible refine k3.mono ?_)
    rintro e w2 ⟨u, rfl, hu, hb2⟩
    have k4 := K4.out u _ w2 hu
    have B2 := hb1.trans (hb2.mono hb1.size)
    clear k3 hu hb1 hb2
    go_wp2_with fail
    (with_reducible refine k4.mono ?_)
    rintro e w3 ⟨rfl, hb3⟩
    have B3 := B2.trans (hb3.mono B2.size)
    clear k4 hb3 B2
    go_wp2_with fail
    (with_reducible refine (cs _).mono ?_)
    rintro e w4 ⟨rfl, hb4⟩
    have B4 := B3.trans (hb4.mono B3.size)
    clear hb4 B3
    go_wp2_with fail
    go_ret
    exact ⟨rfl, B4⟩
set_option maxRecDepth 100000 in
theorem lifted (os : Os) (started : os.Started) (H : Type) (enc : TypeId × Value → H) :
    ReturnsInHanded {} Try.checked os 3 .any (Rows.meetSoundSpec.pre6 enc Try.prog Try.f3 Rows.meetSoundRow.domain false) (Rows.meetSoundSpec.post enc Try.prog Try.f3 false true false false) := by
  refine returnsInHanded_of_change (C := Try.checked) own started (by kernel_rfl) Try.func3
    (ChangeSpec.witness6 (enc := enc) (C := Try.checked) false ⟨#[], #[.slice none 0 0, .int .i64 0], []⟩ 8 (by kernel_rfl) (by kernel_rfl) (by kernel_rfl) (by kernel_rfl)) ?_
  intro W base args ds gs before hval0 hW hcnd _
  have hval : ∀ (j : Nat) t v, Try.f3.params[j]? = some t → args[j]? = some v → Value.okWide Try.prog W .any base t v := hval0
  have hW' := hW
  obtain ⟨p, q, hA0, hV, rfl, hfz, hnd⟩ := hW
  have hA : DataW.TrodAll enc Try.prog W 0 (fun _ => true) true Try.f3.params.toList args.toList ds p := hA0
  rw [Try.params3] at hA hval
  obtain ⟨v0, vs0, d0, ds0, p0, q0, hargs, rfl, rfl, h0, r0⟩ := trodAll_cons hA
  obtain ⟨v1, vs1, d1, ds1, p1, q1, rfl, rfl, rfl, h1, r1⟩ := trodAll_cons r0
  obtain ⟨rfl, rfl, rfl⟩ := trodAll_nil r1
  obtain rfl : args = #[v0, v1] := by cases args; simp_all
  obtain ⟨rfl, rfl⟩ := trodVars_none hV
  have k0 := h0
  have lt0 : ∀ x ∈ p0, x.block < W.heap.size := by obtain ⟨m, hm⟩ := k0; exact DataW.trod_lt m _ _ _ hm
  obtain ⟨a0, len0, cap0, rfl⟩ := okWide_slice Try.underlying22 (hval 0 22 v0 rfl rfl)
  obtain ⟨z0, w0a, w0b, w0c⟩ : ∃ l : List Cd, SlAt (fun b => b < W.heap.size) 3 cdC W (.slice a0 len0 cap0) l ∧ (∀ f ∈ l, Cd.Typed f) ∧ l.length ≤ maxLen := by
    obtain ⟨fuel, hf⟩ := h0
    obtain ⟨v, l, hcs, h1, h2, h3⟩ := open_cds hf
    simp [Value.cells] at hcs
    subst hcs
    exact ⟨l, h1, h2, h3⟩
  have w0d : len0 ≤ cap0 ∧ cap0 ≤ maxLen := by
    obtain ⟨fuel, hf⟩ := k0
    exact cap_ok Try.underlying22 hf
  obtain ⟨a1, rfl, rfl, rfl, w1⟩ := open_int Try.underlying2 (hval 1 2 v1 rfl rfl) h1
  clear hA0 hval0
  refine (walk (.slice a0 len0 cap0) z0 a1 W w0a w0b w0c _ _ _ rfl w0d w1).mono fun e W' ⟨he, bel⟩ => ?_
  subst he
  exact ⟨_, rfl, _, _, _, [], _, [], hW', trodAll_mk1 (shut_bool Try.underlying4 _), (trodAll_cons_mk (Below.trod laidOut (by kernel_rfl) (of_decide_eq_true (by kernel_rfl)) k0 bel lt0) (trodAll_cons_mk (shut_int Try.underlying2 w1) trodAll_mk0)), rfl, bel.frame _, fun h => by cases h⟩

theorem over : Rows.meetSoundRow.holds Try.pinned (OpenSpec.ofChange Rows.meetSoundSpec) :=
  OpenClaim.holds_of_wide 3 Try.f3 rfl rfl rfl rfl rfl rfl rfl ⟨rfl, rfl, rfl, rfl, rfl⟩ rfl rfl rfl rfl rfl (by kernel_rfl) Try.func3 (by kernel_rfl)
    (of_decide_eq_true (by kernel_rfl)) (by unfold Func.isWrapper; first | (rw [if_pos (by decide +kernel)]; kernel_rfl) | (rw [if_neg (by decide +kernel)]; exact ⟨rfl, rfl⟩))
    (fun os started H enc _ => lifted os started H enc)

theorem proved : Rows.MeetSoundSaid := over
end Go.Proofs.Ytkbjmcgnjhpkiaa.MeetSound
