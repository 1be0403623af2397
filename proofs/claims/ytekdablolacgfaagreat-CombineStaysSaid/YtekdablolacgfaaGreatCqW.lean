/- Layer 18's laws: what is standard; servers of a list of strata, and who leads them. -/
import Derived.Test.YtekdablolacgfaaGreatCqT
import Derived.Test.YtekdablolacgfaaGreatStY
import Derived.Test.YtekdablolacgfaaGreatStF
import Derived.Test.YtekdablolacgfaaGreatRcA
import Derived.Test.YtekdablolacgfaaGreatFixD
import Derived.Test.YtekdablolacgfaaGreatHdZ
import Derived.Test.YtekdablolacgfaaGreatEdA
import Derived.Test.YtekdablolacgfaaGreatStX
import Derived.Test.YtekdablolacgfaaGreatFixB
import Derived.Test.YtekdablolacgfaaGreatQtB
import Derived.Test.YtekdablolacgfaaGreatChecked
import Derived.Test.YtekdablolacgfaaGreatRows
import Derived.Test.YtekdablolacgfaaGreatWdefs
import Derived.ChangeArms
import Derived.OpenShut
import Derived.ChangeOld
import Derived.Handy
import Derived.WalkKit
import Derived.Lib.Hide
import Derived.Maps.OwnSet
import Derived.Maps.OwnOps
import Derived.WalkSpells
import Derived.Lib.QuietBelow
import Derived.BigQuiet
import Derived.Laws.CopyRow
import Derived.WalkLawsBesides
import Derived.Lib.Zigzag
import Derived.OwnWalk
import Derived.Deep.Fields
namespace Go.Proofs.YtekdablolacgfaaGreat.W
open Go.RowKit Go.Sort
set_option linter.unusedVariables false
set_option linter.unusedSimpArgs false
def stS (z : List Int) (i : Nat) : Sv := ⟨0, z.getD i 0 % 16, 0, 0, 0, ⟨(i : Int), 0, 0, 0, 0⟩, 1⟩
def stsL (z : List Int) : List Sv := (List.range z.length).map (stS z)
def kpL (n : Nat) : List Int := (List.range n).map fun (i : Nat) => (i : Int)
def bestZ (z : List Int) (n : Nat) : Int := ((z.take n).map fun b => b % 16).foldl min 255
theorem sts_length (z : List Int) : (stsL z).length = z.length := by simp [stsL]
theorem kp_length (n : Nat) : (kpL n).length = n := by simp [kpL]
theorem sts_at {z : List Int} {i : Nat} (h : i < z.length) : (stsL z)[i]? = some (stS z i) := by simp [stsL, h]
theorem kp_at {n i : Nat} (h : i < n) : (kpL n)[i]? = some (i : Int) := by simp [kpL, h]
theorem best_step {z : List Int} {q : Nat} {b : Int} (h : z[q]? = some b) : bestZ z (q + 1) = min (bestZ z q) (b % 16) := by
  obtain ⟨hq, rfl⟩ := List.getElem?_eq_some_iff.1 h
  unfold bestZ
  rw [List.take_succ_eq_append_getElem hq, List.map_append, List.foldl_append]
  rfl
theorem best_le (z : List Int) : ∀ n i, i < n → n ≤ z.length → bestZ z n ≤ z.getD i 0 % 16
  | 0, i, h, _ => absurd h (Nat.not_lt_zero _)
  | n + 1, i, h, hn => by
    have hx : z[n]? = some (z.getD n 0) := by simp [List.getD, show n < z.length by omega]
    rw [best_step hx]
    by_cases e : i = n
    · subst e
      omega
    · have := best_le z n i (by omega) (by omega)
      omega
theorem sts_str {z : List Int} {i : Nat} (h : i < z.length) : (svAt (stsL z) i).str = z.getD i 0 % 16 := by
  unfold svAt
  simp only [List.getD, sts_at h]
  rfl
/-- Who leads. -/
theorem lead_sts {z : List Int} {old : Nat} (h : old < z.length) : leadI (stsL z) (kpL z.length) (old : Int) = if z.getD old 0 % 16 ≤ z.getD 0 0 % 16 then (old : Int) else 0 := by
  have h0 : 0 < z.length := by omega
  have hne : kpL z.length ≠ [] := by
    intro e
    have := congrArg List.length e
    rw [kp_length, List.length_nil] at this
    omega
  have hout : (kpL z.length).any (fun k => decide (k < 0 ∨ ((stsL z).length : Int) ≤ k)) = false := by
    rw [List.any_eq_false]
    intro k hk
    obtain ⟨i, hi, rfl⟩ := List.mem_map.1 hk
    rw [List.mem_range] at hi
    intro e
    have e' : ((i : Int) < 0 ∨ ((stsL z).length : Int) ≤ (i : Int)) := of_decide_eq_true e
    rw [sts_length] at e'
    omega
  have hold : (kpL z.length).any (fun k => decide (k = (old : Int))) = true := by
    rw [List.any_eq_true]
    exact ⟨(old : Int), List.mem_map.2 ⟨old, List.mem_range.2 h, rfl⟩, by simp⟩
  have hhd : (kpL z.length).headD 0 = 0 := by
    obtain ⟨m, hm⟩ : ∃ m, z.length = m + 1 := ⟨z.length - 1, by omega⟩
    rw [hm]
    simp [kpL, List.range_succ_eq_map]
  unfold leadI chooseI
  dsimp only
  rw [if_neg hne, if_neg (by rw [hout]; decide), hhd]
  have e1 : (svAt (stsL z) ((old : Int)).toNat).str = z.getD old 0 % 16 := by rw [Int.toNat_natCast]; exact sts_str h
  have e2 : (svAt (stsL z) ((0 : Int)).toNat).str = z.getD 0 0 % 16 := sts_str h0
  by_cases g : z.getD old 0 % 16 ≤ z.getD 0 0 % 16
  · rw [if_pos g]
    exact if_pos ⟨hold, by rw [e1, e2]; exact g⟩
  · rw [if_neg g]
    exact if_neg (fun e => g (by have h3 := e.2; rw [e1, e2] at h3; exact h3))
set_option maxRecDepth 100000 in
set_option maxHeartbeats 6400000 in
theorem std18_any (w : World) : Calls Tryz.prog 7 #[] w fun e w' => e = .returned (chkP stdC).val ∧ Below w.heap.size w w' := by
  have c1 := gstd_any
  have c2 := gcheck_any stdC std_typed
  unfold Pm.val at *
  generalize stdC.val = sv at *
  generalize chkP stdC = p at *
  have hA := (Below.refl w.heap.size w).alloc (Nat.le_refl _) (.cells #[.int .i64 0, .int .i64 0, .int .i64 0, .int .i64 0, .int .i64 0, .int .i64 0, .int .i64 0, .int .i64 0, .int .i64 0, .int .i64 0, .int .i64 0, .int .i64 0] 37)
  have hr := heap_alloc_new w (.cells #[.int .i64 0, .int .i64 0, .int .i64 0, .int .i64 0, .int .i64 0, .int .i64 0, .int .i64 0, .int .i64 0, .int .i64 0, .int .i64 0, .int .i64 0, .int .i64 0] 37)
  go_enter Tryz.func7, Tryz.ntmps7
  go_wp2_with fail
  generalize w.alloc (.cells #[.int .i64 0, .int .i64 0, .int .i64 0, .int .i64 0, .int .i64 0, .int .i64 0, .int .i64 0, .int .i64 0, .int .i64 0, .int .i64 0, .int .i64 0, .int .i64 0] 37) = w1 at *
  (with_reducible refine (c1 _).mono ?_)
  rintro e w2 ⟨rfl, hB2⟩
  go_wp2_with fail
  (with_reducible refine (c2 _).mono ?_)
  rintro e w3 ⟨rfl, hB3⟩
  have hB13 := hB2.trans (hB3.mono hB2.size)
  have hr3 := (hB13.block _ (Array.getElem?_eq_some_iff.1 hr).1).trans hr
  have hB := hA.trans (hB13.mono hA.size)
  have l3 := (Array.getElem?_eq_some_iff.1 hr3).1
  have hB4 := hB.alloc hB.size (.cells #[.int .i64 p.step, .int .i64 p.watch, .int .i64 p.panic, .int .i64 p.maxrate, .int .i64 p.phi, .int .i64 p.maxdist, .int .i64 p.gate, .int .i64 p.minpoll, .int .i64 p.maxpoll, .int .i64 p.burst, .int .i64 p.minsane, .int .i64 p.minleft] 37)
  have hr4 := (Below.heap_alloc w3 (.cells #[.int .i64 p.step, .int .i64 p.watch, .int .i64 p.panic, .int .i64 p.maxrate, .int .i64 p.phi, .int .i64 p.maxdist, .int .i64 p.gate, .int .i64 p.minpoll, .int .i64 p.maxpoll, .int .i64 p.burst, .int .i64 p.minsane, .int .i64 p.minleft] 37) w.heap.size l3).trans hr3
  have hp4 := heap_alloc_new w3 (.cells #[.int .i64 p.step, .int .i64 p.watch, .int .i64 p.panic, .int .i64 p.maxrate, .int .i64 p.phi, .int .i64 p.maxdist, .int .i64 p.gate, .int .i64 p.minpoll, .int .i64 p.maxpoll, .int .i64 p.burst, .int .i64 p.minsane, .int .i64 p.minleft] 37)
  clear hA hr hB2 hB3 hB13 hr3 hB
  go_upto_region 2 with fail
  generalize w3.alloc (.cells #[.int .i64 p.step, .int .i64 p.watch, .int .i64 p.panic, .int .i64 p.maxrate, .int .i64 p.phi, .int .i64 p.maxdist, .int .i64 p.gate, .int .i64 p.minpoll, .int .i64 p.maxpoll, .int .i64 p.burst, .int .i64 p.minsane, .int .i64 p.minleft] 37) = w4 at *
  have hBf := put12_below (.int .i64 p.step) (.int .i64 p.watch) (.int .i64 p.panic) (.int .i64 p.maxrate) (.int .i64 p.phi) (.int .i64 p.maxdist) (.int .i64 p.gate) (.int .i64 p.minpoll) (.int .i64 p.maxpoll) (.int .i64 p.burst) (.int .i64 p.minsane) (.int .i64 p.minleft) hB4 (Nat.le_refl _)
  have hrf := put12_at (.int .i64 p.step) (.int .i64 p.watch) (.int .i64 p.panic) (.int .i64 p.maxrate) (.int .i64 p.phi) (.int .i64 p.maxdist) (.int .i64 p.gate) (.int .i64 p.minpoll) (.int .i64 p.maxpoll) (.int .i64 p.burst) (.int .i64 p.minsane) (.int .i64 p.minleft) hr4
  have E := Lib.hid (And.intro hrf hBf)
  obtain ⟨r0, r1, r2, r3, r4, r5, r6, r7, r8, r9, r10, r11⟩ := twelve_at hr4
  have fr := twelve_frozen hr4
  obtain ⟨a0, a1, a2, a3, a4, a5, a6, a7, a8, a9, a10, a11⟩ := twelve_at hp4
  clear hr4 hp4 hBf hrf hB4
  unfold put12 at E
  go_wp2_with fail
  obtain ⟨q0, q1, q2, q3, q4, q5, q6, q7, q8, q9, q10, q11⟩ := twelve_at E.out.1
  refine bodyPost_ret (v := .agg #[.int .i64 p.step, .int .i64 p.watch, .int .i64 p.panic, .int .i64 p.maxrate, .int .i64 p.phi, .int .i64 p.maxdist, .int .i64 p.gate, .int .i64 p.minpoll, .int .i64 p.maxpoll, .int .i64 p.burst, .int .i64 p.minsane, .int .i64 p.minleft]) ?_ rfl ?_
  · simp [results, Tryz.results7, go_sem, q0, q1, q2, q3, q4, q5, q6, q7, q8, q9, q10, q11]
  · exact ⟨rfl, E.out.2⟩
end Go.Proofs.YtekdablolacgfaaGreat.W
