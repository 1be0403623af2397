/- SetupWithin: for every configuration, what was set lies within what it may be, and is ordered; what may not be is told by its first fault, which has a name. No condition. -/
import Derived.Test.YtfanijdemephoaaStY
import Derived.Test.YtfanijdemephoaaRows
import Derived.Test.YtfanijdemephoaaWdefs
import Derived.OpenShut
import Derived.Lib.Hide
import Derived.WalkKit
import Derived.WalkSpells
import Derived.WalkLawsBesides
import Derived.Handy
import Derived.Laws.Bits64b
import Derived.IntWalk
import Derived.BigQuiet
import Derived.Deep.QuietTactic
import Derived.Deep.DeepCutAuto
import Derived.Deep.RegionWith
import Derived.OneCell
import Derived.Lib.Zigzag
import Derived.ProofKit
import Derived.ShutString
import Derived.ChangeOld
import Derived.Below
namespace Go.Proofs.Ytfanijdemephoaa.SetupWithin
open Go.Proofs.Ytfanijdemephoaa.W
open Go.ChangeShapes Go.WideShapes Go.ChangeAt Go.RowKit
open Go.ChangeMaps (open_string shut_string)
set_option linter.unusedVariables false
theorem own : ownKnob Try.prog.godebug = none := by kernel_rfl
theorem laidOut : laidOutB Try.prog = true := by kernel_rfl
open Go.Sort
set_option linter.unusedSimpArgs false
set_option maxRecDepth 100000 in
theorem name_some (n : Int) (h0 : 1 ≤ n) (h1 : n ≤ 12) : nameV n ≠ { data := #[] } ∧ ¬ (nameV n).toList = [] := by
  have hk : n = 1 ∨ n = 2 ∨ n = 3 ∨ n = 4 ∨ n = 5 ∨ n = 6 ∨ n = 7 ∨ n = 8 ∨ n = 9 ∨ n = 10 ∨ n = 11 ∨ n = 12 := by omega
  obtain ⟨e1, e2, e3, e4, e5, e6, e7, e8, e9, e10, e11, e12⟩ := name_at
  rcases hk with rfl | rfl | rfl | rfl | rfl | rfl | rfl | rfl | rfl | rfl | rfl | rfl
  · rw [e1]; exact ⟨by decide, by decide +kernel⟩
  · rw [e2]; exact ⟨by decide, by decide +kernel⟩
  · rw [e3]; exact ⟨by decide, by decide +kernel⟩
  · rw [e4]; exact ⟨by decide, by decide +kernel⟩
  · rw [e5]; exact ⟨by decide, by decide +kernel⟩
  · rw [e6]; exact ⟨by decide, by decide +kernel⟩
  · rw [e7]; exact ⟨by decide, by decide +kernel⟩
  · rw [e8]; exact ⟨by decide, by decide +kernel⟩
  · rw [e9]; exact ⟨by decide, by decide +kernel⟩
  · rw [e10]; exact ⟨by decide, by decide +kernel⟩
  · rw [e11]; exact ⟨by decide, by decide +kernel⟩
  · rw [e12]; exact ⟨by decide, by decide +kernel⟩
set_option maxRecDepth 100000 in
set_option maxHeartbeats 25600000 in
theorem walk (c : Cf) (w : World) (t : c.Typed) :
    Calls Try.prog 5 #[c.val] w fun e w' => e = .returned (.bool true) ∧ Below w.heap.size w w' := by
  have c1 := gcheck_any c t
  have c5 := shown10_any
  have hsplit : (upTo c 12 = []) ∨ (∃ n, chkN c = n ∧ chkE c ≠ 0 ∧ chkP c = zeroP ∧ 1 ≤ n ∧ n ≤ 12) := by
    cases h : upTo c 12 with
    | nil => exact .inl rfl
    | cons n l =>
      have hm : n ∈ upTo c 12 := by rw [h]; exact List.mem_cons_self ..
      have hE : chkE c = fieldE c n.toNat := by unfold chkE; rw [h]; rfl
      unfold upTo at hm
      obtain ⟨k, hk, rfl⟩ := List.mem_map.1 hm
      have h1 := (List.mem_filter.1 hk).2
      have h2 := List.mem_range'.1 (List.mem_filter.1 hk).1
      refine .inr ⟨(k : Int), by unfold chkN; rw [h]; rfl, ?_, by unfold chkP; rw [h, if_neg (by simp)], by omega, by omega⟩
      rw [hE]
      simpa using h1
  rcases hsplit with h0 | ⟨n, hn, he, hp, n0, n1⟩
  · have W := within_set h0
    have eN : chkN c = 0 := by unfold chkN; rw [h0]; rfl
    have eE : chkE c = 0 := by unfold chkE; rw [h0, if_pos rfl]
    have eP : chkP c = setP c := by unfold chkP; rw [h0, if_pos rfl]
    rw [eN, eE, eP] at c1
    generalize setP c = p at *
    obtain ⟨f1, f2, f3, ⟨f4, f5⟩, ⟨f6, f7⟩, f8, f9, ⟨f10, f11, f12⟩, ⟨f13, f14⟩, f15, f16⟩ := W
    unfold Pm.val at c1
    clear eN eE eP h0 t
    unfold Cf.val at *
    go_enter Try.func5, Try.ntmps5
    go_wp2_with fail
    have hB0 : Below w.heap.size w (w.alloc (.cells #[.float .f64 c.step, .float .f64 c.watch, .float .f64 c.panic, .float .f64 c.maxrate, .float .f64 c.phi, .float .f64 c.maxdist, .float .f64 c.gate, .int .i64 c.minpoll, .int .i64 c.maxpoll, .int .i64 c.burst, .int .i64 c.minsane, .int .i64 c.minleft] 24)) := (Below.refl _ _).alloc (Nat.le_refl _) _
    generalize w.alloc (.cells #[.float .f64 c.step, .float .f64 c.watch, .float .f64 c.panic, .float .f64 c.maxrate, .float .f64 c.phi, .float .f64 c.maxdist, .float .f64 c.gate, .int .i64 c.minpoll, .int .i64 c.maxpoll, .int .i64 c.burst, .int .i64 c.minsane, .int .i64 c.minleft] 24) = w1 at *
    (with_reducible refine (c1 _).mono ?_)
    rintro e w2 ⟨rfl, hB2⟩
    have hb2 := hB0.trans (hB2.mono hB0.size)
    have hB3 : Below w.heap.size w (w2.alloc (.cells #[.int .i64 p.step, .int .i64 p.watch, .int .i64 p.panic, .int .i64 p.maxrate, .int .i64 p.phi, .int .i64 p.maxdist, .int .i64 p.gate, .int .i64 p.minpoll, .int .i64 p.maxpoll, .int .i64 p.burst, .int .i64 p.minsane, .int .i64 p.minleft] 26)) := hb2.alloc hb2.size _
    have hp3 := heap_alloc_new w2 (.cells #[.int .i64 p.step, .int .i64 p.watch, .int .i64 p.panic, .int .i64 p.maxrate, .int .i64 p.phi, .int .i64 p.maxdist, .int .i64 p.gate, .int .i64 p.minpoll, .int .i64 p.maxpoll, .int .i64 p.burst, .int .i64 p.minsane, .int .i64 p.minleft] 26)
    clear hB0 hB2 hb2
    go_wp2_with fail
    generalize w2.alloc (.cells #[.int .i64 p.step, .int .i64 p.watch, .int .i64 p.panic, .int .i64 p.maxrate, .int .i64 p.phi, .int .i64 p.maxdist, .int .i64 p.gate, .int .i64 p.minpoll, .int .i64 p.maxpoll, .int .i64 p.burst, .int .i64 p.minsane, .int .i64 p.minleft] 26) = w3 at *
    (with_reducible refine (c5 _).mono ?_)
    rintro e w4 ⟨rfl, hB4⟩
    have hp4 := (hB4.block _ (Array.getElem?_eq_some_iff.1 hp3).1).trans hp3
    have hB := hB3.trans (hB4.mono hB3.size)
    obtain ⟨q0, q1, q2, q3, q4, q5, q6, q7, q8, q9, q10, q11⟩ := twelve_at hp4
    clear hB3 hB4 hp3 hp4
    go_wp2_with fail
    go_ret
    exact ⟨rfl, hB⟩
  · rw [hn, hp] at c1
    have c3 := gsname_any n (by omega) (by omega)
    obtain ⟨hnm, hnl⟩ := name_some n n0 n1
    generalize nameV n = nv at *
    have heb : (chkE c == 0) = false := by rw [beq_eq_false_iff_ne]; exact he
    generalize chkE c = ev at *
    unfold Pm.val zeroP at c1
    clear hn hp t
    unfold Cf.val at *
    go_enter Try.func5, Try.ntmps5
    go_wp2_with fail
    have hB0 : Below w.heap.size w (w.alloc (.cells #[.float .f64 c.step, .float .f64 c.watch, .float .f64 c.panic, .float .f64 c.maxrate, .float .f64 c.phi, .float .f64 c.maxdist, .float .f64 c.gate, .int .i64 c.minpoll, .int .i64 c.maxpoll, .int .i64 c.burst, .int .i64 c.minsane, .int .i64 c.minleft] 24)) := (Below.refl _ _).alloc (Nat.le_refl _) _
    generalize w.alloc (.cells #[.float .f64 c.step, .float .f64 c.watch, .float .f64 c.panic, .float .f64 c.maxrate, .float .f64 c.phi, .float .f64 c.maxdist, .float .f64 c.gate, .int .i64 c.minpoll, .int .i64 c.maxpoll, .int .i64 c.burst, .int .i64 c.minsane, .int .i64 c.minleft] 24) = w1 at *
    (with_reducible refine (c1 _).mono ?_)
    rintro e w2 ⟨rfl, hB2⟩
    have hb2 := hB0.trans (hB2.mono hB0.size)
    have hB3 : Below w.heap.size w (w2.alloc (.cells #[.int .i64 0, .int .i64 0, .int .i64 0, .int .i64 0, .int .i64 0, .int .i64 0, .int .i64 0, .int .i64 0, .int .i64 0, .int .i64 0, .int .i64 0, .int .i64 0] 26)) := hb2.alloc hb2.size _
    have hp3 := heap_alloc_new w2 (.cells #[.int .i64 0, .int .i64 0, .int .i64 0, .int .i64 0, .int .i64 0, .int .i64 0, .int .i64 0, .int .i64 0, .int .i64 0, .int .i64 0, .int .i64 0, .int .i64 0] 26)
    clear hB0 hB2 hb2
    go_wp2_with fail
    generalize w2.alloc (.cells #[.int .i64 0, .int .i64 0, .int .i64 0, .int .i64 0, .int .i64 0, .int .i64 0, .int .i64 0, .int .i64 0, .int .i64 0, .int .i64 0, .int .i64 0, .int .i64 0] 26) = w3 at *
    (with_reducible refine (c5 _).mono ?_)
    rintro e w4 ⟨rfl, hB4⟩
    have hp4 := (hB4.block _ (Array.getElem?_eq_some_iff.1 hp3).1).trans hp3
    have hB := hB3.trans (hB4.mono hB3.size)
    obtain ⟨q0, q1, q2, q3, q4, q5, q6, q7, q8, q9, q10, q11⟩ := twelve_at hp4
    clear hB3 hB4 hp3 hp4
    go_wp2_with fail
    (with_reducible refine (c3 _).mono ?_)
    rintro e w5 ⟨rfl, hB5⟩
    have hBf := hB.trans (hB5.mono hB.size)
    go_wp2_with fail
    go_ret
    exact ⟨by simp [hnm, hnl], hBf⟩
set_option maxRecDepth 100000 in
theorem lifted (os : Os) (started : os.Started) (H : Type) (enc : TypeId × Value → H) :
    ReturnsInHanded {} Try.checked os 5 .any (Rows.setupWithinSpec.pre6 enc Try.prog Try.f5 Rows.setupWithinRow.domain false) (Rows.setupWithinSpec.post enc Try.prog Try.f5 false true false false) := by
  refine returnsInHanded_of_change (C := Try.checked) own started (by kernel_rfl) Try.func5
    (ChangeSpec.witness6 (enc := enc) (C := Try.checked) false ⟨#[], #[.agg #[.float .f64 0, .float .f64 0, .float .f64 0, .float .f64 0, .float .f64 0, .float .f64 0, .float .f64 0, .int .i64 0, .int .i64 0, .int .i64 0, .int .i64 0, .int .i64 0]], []⟩ 8 (by kernel_rfl) (by kernel_rfl) (by kernel_rfl) (by kernel_rfl)) ?_
  intro W base args ds gs before hval0 hW hcnd _
  have hval : ∀ (j : Nat) t v, Try.f5.params[j]? = some t → args[j]? = some v → Value.okWide Try.prog W .any base t v := hval0
  have hW' := hW
  obtain ⟨p, q, hA0, hV, rfl, hfz, hnd⟩ := hW
  have hA : DataW.TrodAll enc Try.prog W 0 (fun _ => true) true Try.f5.params.toList args.toList ds p := hA0
  rw [Try.params5] at hA hval
  obtain ⟨v0, vs0, d0, ds0, p0, q0, hargs, rfl, rfl, h0, r0⟩ := trodAll_cons hA
  obtain ⟨rfl, rfl, rfl⟩ := trodAll_nil r0
  obtain rfl : args = #[v0] := by cases args; simp_all
  obtain ⟨rfl, rfl⟩ := trodVars_none hV
  have k0 := h0
  have lt0 : ∀ x ∈ p0, x.block < W.heap.size := by obtain ⟨m, hm⟩ := k0; exact DataW.trod_lt m _ _ _ hm
  obtain ⟨a0, rfl, w0⟩ := open_cf (hval 0 24 v0 rfl rfl) h0
  clear hA0 hval0
  refine (walk a0 W w0).mono fun e W' ⟨he, bel⟩ => ?_
  subst he
  exact ⟨_, rfl, _, _, _, [], _, [], hW', trodAll_mk1 (shut_bool Try.underlying4 _), (trodAll_cons_mk (Below.trod laidOut (by kernel_rfl) (of_decide_eq_true (by kernel_rfl)) k0 bel lt0) trodAll_mk0), rfl, bel.frame _, fun h => by cases h⟩

theorem over : Rows.setupWithinRow.holds Try.pinned (OpenSpec.ofChange Rows.setupWithinSpec) :=
  OpenClaim.holds_of_wide 5 Try.f5 rfl rfl rfl rfl rfl rfl rfl ⟨rfl, rfl, rfl, rfl, rfl⟩ rfl rfl rfl rfl rfl (by kernel_rfl) Try.func5 (by kernel_rfl)
    (of_decide_eq_true (by kernel_rfl)) (by unfold Func.isWrapper; first | (rw [if_pos (by decide +kernel)]; kernel_rfl) | (rw [if_neg (by decide +kernel)]; exact ⟨rfl, rfl⟩))
    (fun os started H enc _ => lifted os started H enc)

theorem proved : Rows.SetupWithinSaid := over
end Go.Proofs.Ytfanijdemephoaa.SetupWithin
