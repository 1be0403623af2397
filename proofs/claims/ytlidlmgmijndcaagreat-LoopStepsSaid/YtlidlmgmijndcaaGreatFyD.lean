import Derived.Test.YtlidlmgmijndcaaGreatFyB
/- The walks of layer 3: the reference's Kind and Of; To. -/
namespace Go.Proofs.YtlidlmgmijndcaaGreat.W
open Go.RowKit
set_option linter.unusedVariables false
set_option linter.unusedSimpArgs false
theorem ofE_zero {b : Nat} (h : ofE b = 0) : isIn b ∧ isF b ∧ isN b := by
  unfold ofE at h
  split at h
  · omega
  · split at h
    · omega
    · split at h
      · rename_i k; exact ⟨k, k.isF, k.isF.isN⟩
      · omega
theorem ofE_in {b : Nat} (h : isIn b) : ofE b = 0 := by
  have := h.isF
  unfold isF at this
  unfold ofE
  rw [if_neg (by omega), if_neg (by omega), if_pos h]
end Go.Proofs.YtlidlmgmijndcaaGreat.W

/- The walks of layer 3: the reference's Of; Within; Same; the small case. -/
namespace Go.Proofs.YtlidlmgmijndcaaGreat.W
open Go.RowKit
set_option linter.unusedVariables false
set_option linter.unusedSimpArgs false
/-- Within's error, and its answer. -/
def wiE (f l h : Nat) : Int := if ofE f ≠ 0 then ofE f else if ofE l ≠ 0 then ofE l else if ofE h ≠ 0 then ofE h else if V f < V l ∨ V h < V f then 32 else 0
def wiV (f l h : Nat) : Int := if wiE f l h = 0 then ofV f else 0
theorem idx0 (f l h : Nat) (w : World) : (Instr.index 112 (.agg #[.float .f64 f, .float .f64 l, .float .f64 h]) (.int .i64 0)).run Tryz.prog w = .ok (.float .f64 f) w := by
  simp [Instr.index, run_underlying Tryz.underlying112, asIntOf, go_sem]
theorem idx1 (f l h : Nat) (w : World) : (Instr.index 112 (.agg #[.float .f64 f, .float .f64 l, .float .f64 h]) (.int .i64 1)).run Tryz.prog w = .ok (.float .f64 l) w := by
  simp [Instr.index, run_underlying Tryz.underlying112, asIntOf, go_sem]
theorem idx2 (f l h : Nat) (w : World) : (Instr.index 112 (.agg #[.float .f64 f, .float .f64 l, .float .f64 h]) (.int .i64 2)).run Tryz.prog w = .ok (.float .f64 h) w := by
  simp [Instr.index, run_underlying Tryz.underlying112, asIntOf, go_sem]
set_option maxHeartbeats 1600000 in
theorem within_any (f l h : Nat) (hf : f < 18446744073709551616) (hl : l < 18446744073709551616) (hh : h < 18446744073709551616) (w : World) :
    Calls Tryz.prog 88 #[.float .f64 f, .float .f64 l, .float .f64 h] w fun e w' => e = .returned (.tuple #[.int .i64 (wiV f l h), .int .i64 (wiE f l h)]) ∧ w = w' := by
  have c1 := of_any f hf
  have c2 := of_any l hl
  have c3 := of_any h hh
  have i0 := idx0 f l h
  have i1 := idx1 f l h
  have i2 := idx2 f l h
  clear hf hl hh
  by_cases z1 : ofE f = 0
  rotate_left
  · have a : wiE f l h = ofE f := by unfold wiE; rw [if_pos z1]
    have b : wiV f l h = 0 := by unfold wiV; rw [a, if_neg z1]
    rw [b, a]
    clear a b
    have z1' : (ofE f == 0) = false := by rw [beq_eq_false_iff_ne]; exact z1
    generalize ofE f = e1 at *
    go_enter Tryz.func88, Tryz.ntmps88
    go_wp2_with fail
    refine wp_loop_rounds 4 ?_
    rw [rounds_succ]
    go_wp2_with fail
    (with_reducible refine (c1 _).mono ?_)
    rintro e w' ⟨rfl, rfl⟩
    go_wp2_with fail
    go_ret2
    exact ⟨rfl, rfl⟩
  by_cases z2 : ofE l = 0
  rotate_left
  · have a : wiE f l h = ofE l := by unfold wiE; rw [if_neg (by omega), if_pos z2]
    have b : wiV f l h = 0 := by unfold wiV; rw [a, if_neg z2]
    rw [b, a]
    clear a b
    rw [z1] at c1
    have z2' : (ofE l == 0) = false := by rw [beq_eq_false_iff_ne]; exact z2
    generalize ofE l = e2 at *
    clear z1
    go_enter Tryz.func88, Tryz.ntmps88
    go_wp2_with fail
    refine wp_loop_rounds 4 ?_
    rw [rounds_succ]
    go_wp2_with fail
    (with_reducible refine (c1 _).mono ?_)
    rintro e w' ⟨rfl, rfl⟩
    go_wp2_with fail
    rw [rounds_succ]
    go_wp2_with fail
    (with_reducible refine (c2 _).mono ?_)
    rintro e w' ⟨rfl, rfl⟩
    go_wp2_with fail
    go_ret2
    exact ⟨rfl, rfl⟩
  by_cases z3 : ofE h = 0
  rotate_left
  · have a : wiE f l h = ofE h := by unfold wiE; rw [if_neg (by omega), if_neg (by omega), if_pos z3]
    have b : wiV f l h = 0 := by unfold wiV; rw [a, if_neg z3]
    rw [b, a]
    clear a b
    rw [z1] at c1
    rw [z2] at c2
    have z3' : (ofE h == 0) = false := by rw [beq_eq_false_iff_ne]; exact z3
    generalize ofE h = e3 at *
    clear z1 z2
    go_enter Tryz.func88, Tryz.ntmps88
    go_wp2_with fail
    refine wp_loop_rounds 4 ?_
    rw [rounds_succ]
    go_wp2_with fail
    (with_reducible refine (c1 _).mono ?_)
    rintro e w' ⟨rfl, rfl⟩
    go_wp2_with fail
    rw [rounds_succ]
    go_wp2_with fail
    (with_reducible refine (c2 _).mono ?_)
    rintro e w' ⟨rfl, rfl⟩
    go_wp2_with fail
    rw [rounds_succ]
    go_wp2_with fail
    (with_reducible refine (c3 _).mono ?_)
    rintro e w' ⟨rfl, rfl⟩
    go_wp2_with fail
    go_ret2
    exact ⟨rfl, rfl⟩
  have a : wiE f l h = if V f < V l ∨ V h < V f then 32 else 0 := by unfold wiE; rw [if_neg (by omega), if_neg (by omega), if_neg (by omega)]
  have b : wiV f l h = if wiE f l h = 0 then ofV f else 0 := rfl
  rw [b, a]
  clear a b
  have n1 := (ofE_zero z1).2.2
  have n2 := (ofE_zero z2).2.2
  have n3 := (ofE_zero z3).2.2
  rw [z1] at c1
  rw [z2] at c2
  rw [z3] at c3
  clear z1 z2 z3
  rcases Int.lt_trichotomy (V f) (V l) with k | k | k
  · have o1 := order_lt n1 n2 k
    rw [if_pos (show V f < V l ∨ V h < V f from .inl k), if_neg (show ¬ (32 : Int) = 0 by decide)]
    clear n1 n2 n3 k
    go_enter Tryz.func88, Tryz.ntmps88
    go_wp2_with fail
    refine wp_loop_rounds 4 ?_
    rw [rounds_succ]
    go_wp2_with fail
    (with_reducible refine (c1 _).mono ?_)
    rintro e w' ⟨rfl, rfl⟩
    go_wp2_with fail
    rw [rounds_succ]
    go_wp2_with fail
    (with_reducible refine (c2 _).mono ?_)
    rintro e w' ⟨rfl, rfl⟩
    go_wp2_with fail
    rw [rounds_succ]
    go_wp2_with fail
    (with_reducible refine (c3 _).mono ?_)
    rintro e w' ⟨rfl, rfl⟩
    go_wp2_with fail
    rw [rounds_succ]
    go_wp2_with fail
    go_ret2
    exact ⟨rfl, rfl⟩
  · have o1 := order_eq n1 n2 k
    rcases Int.lt_trichotomy (V f) (V h) with j | j | j
    · have o2 := order_lt n1 n3 j
      rw [if_neg (show ¬ (V f < V l ∨ V h < V f) by omega), if_pos rfl]
      clear n1 n2 n3 k j
      go_enter Tryz.func88, Tryz.ntmps88
      go_wp2_with fail
      refine wp_loop_rounds 4 ?_
      rw [rounds_succ]
      go_wp2_with fail
      (with_reducible refine (c1 _).mono ?_)
      rintro e w' ⟨rfl, rfl⟩
      go_wp2_with fail
      rw [rounds_succ]
      go_wp2_with fail
      (with_reducible refine (c2 _).mono ?_)
      rintro e w' ⟨rfl, rfl⟩
      go_wp2_with fail
      rw [rounds_succ]
      go_wp2_with fail
      (with_reducible refine (c3 _).mono ?_)
      rintro e w' ⟨rfl, rfl⟩
      go_wp2_with fail
      rw [rounds_succ]
      go_wp2_with fail
      (with_reducible refine (c1 _).mono ?_)
      rintro e w' ⟨rfl, rfl⟩
      go_wp2_with fail
      go_ret2
      exact ⟨rfl, rfl⟩
    · have o2 := order_eq n1 n3 j
      rw [if_neg (show ¬ (V f < V l ∨ V h < V f) by omega), if_pos rfl]
      clear n1 n2 n3 k j
      go_enter Tryz.func88, Tryz.ntmps88
      go_wp2_with fail
      refine wp_loop_rounds 4 ?_
      rw [rounds_succ]
      go_wp2_with fail
      (with_reducible refine (c1 _).mono ?_)
      rintro e w' ⟨rfl, rfl⟩
      go_wp2_with fail
      rw [rounds_succ]
      go_wp2_with fail
      (with_reducible refine (c2 _).mono ?_)
      rintro e w' ⟨rfl, rfl⟩
      go_wp2_with fail
      rw [rounds_succ]
      go_wp2_with fail
      (with_reducible refine (c3 _).mono ?_)
      rintro e w' ⟨rfl, rfl⟩
      go_wp2_with fail
      rw [rounds_succ]
      go_wp2_with fail
      (with_reducible refine (c1 _).mono ?_)
      rintro e w' ⟨rfl, rfl⟩
      go_wp2_with fail
      go_ret2
      exact ⟨rfl, rfl⟩
    · have o2 := order_gt n1 n3 j
      rw [if_pos (show V f < V l ∨ V h < V f from .inr j), if_neg (show ¬ (32 : Int) = 0 by decide)]
      clear n1 n2 n3 k j
      go_enter Tryz.func88, Tryz.ntmps88
      go_wp2_with fail
      refine wp_loop_rounds 4 ?_
      rw [rounds_succ]
      go_wp2_with fail
      (with_reducible refine (c1 _).mono ?_)
      rintro e w' ⟨rfl, rfl⟩
      go_wp2_with fail
      rw [rounds_succ]
      go_wp2_with fail
      (with_reducible refine (c2 _).mono ?_)
      rintro e w' ⟨rfl, rfl⟩
      go_wp2_with fail
      rw [rounds_succ]
      go_wp2_with fail
      (with_reducible refine (c3 _).mono ?_)
      rintro e w' ⟨rfl, rfl⟩
      go_wp2_with fail
      rw [rounds_succ]
      go_wp2_with fail
      go_ret2
      exact ⟨rfl, rfl⟩
  · have o1 := order_gt n1 n2 k
    rcases Int.lt_trichotomy (V f) (V h) with j | j | j
    · have o2 := order_lt n1 n3 j
      rw [if_neg (show ¬ (V f < V l ∨ V h < V f) by omega), if_pos rfl]
      clear n1 n2 n3 k j
      go_enter Tryz.func88, Tryz.ntmps88
      go_wp2_with fail
      refine wp_loop_rounds 4 ?_
      rw [rounds_succ]
      go_wp2_with fail
      (with_reducible refine (c1 _).mono ?_)
      rintro e w' ⟨rfl, rfl⟩
      go_wp2_with fail
      rw [rounds_succ]
      go_wp2_with fail
      (with_reducible refine (c2 _).mono ?_)
      rintro e w' ⟨rfl, rfl⟩
      go_wp2_with fail
      rw [rounds_succ]
      go_wp2_with fail
      (with_reducible refine (c3 _).mono ?_)
      rintro e w' ⟨rfl, rfl⟩
      go_wp2_with fail
      rw [rounds_succ]
      go_wp2_with fail
      (with_reducible refine (c1 _).mono ?_)
      rintro e w' ⟨rfl, rfl⟩
      go_wp2_with fail
      go_ret2
      exact ⟨rfl, rfl⟩
    · have o2 := order_eq n1 n3 j
      rw [if_neg (show ¬ (V f < V l ∨ V h < V f) by omega), if_pos rfl]
      clear n1 n2 n3 k j
      go_enter Tryz.func88, Tryz.ntmps88
      go_wp2_with fail
      refine wp_loop_rounds 4 ?_
      rw [rounds_succ]
      go_wp2_with fail
      (with_reducible refine (c1 _).mono ?_)
      rintro e w' ⟨rfl, rfl⟩
      go_wp2_with fail
      rw [rounds_succ]
      go_wp2_with fail
      (with_reducible refine (c2 _).mono ?_)
      rintro e w' ⟨rfl, rfl⟩
      go_wp2_with fail
      rw [rounds_succ]
      go_wp2_with fail
      (with_reducible refine (c3 _).mono ?_)
      rintro e w' ⟨rfl, rfl⟩
      go_wp2_with fail
      rw [rounds_succ]
      go_wp2_with fail
      (with_reducible refine (c1 _).mono ?_)
      rintro e w' ⟨rfl, rfl⟩
      go_wp2_with fail
      go_ret2
      exact ⟨rfl, rfl⟩
    · have o2 := order_gt n1 n3 j
      rw [if_pos (show V f < V l ∨ V h < V f from .inr j), if_neg (show ¬ (32 : Int) = 0 by decide)]
      clear n1 n2 n3 k j
      go_enter Tryz.func88, Tryz.ntmps88
      go_wp2_with fail
      refine wp_loop_rounds 4 ?_
      rw [rounds_succ]
      go_wp2_with fail
      (with_reducible refine (c1 _).mono ?_)
      rintro e w' ⟨rfl, rfl⟩
      go_wp2_with fail
      rw [rounds_succ]
      go_wp2_with fail
      (with_reducible refine (c2 _).mono ?_)
      rintro e w' ⟨rfl, rfl⟩
      go_wp2_with fail
      rw [rounds_succ]
      go_wp2_with fail
      (with_reducible refine (c3 _).mono ?_)
      rintro e w' ⟨rfl, rfl⟩
      go_wp2_with fail
      rw [rounds_succ]
      go_wp2_with fail
      go_ret2
      exact ⟨rfl, rfl⟩
end Go.Proofs.YtlidlmgmijndcaaGreat.W

