/- The document's own answers of layer 10, walked: a field by itself. -/
import Derived.Test.YtfanijdemephoaaStA
import Derived.Test.YtfanijdemephoaaFyD
import Derived.Test.YtfanijdemephoaaWdefs
import Derived.Lib.QuietBelow
namespace Go.Proofs.Ytfanijdemephoaa.W
open Go.RowKit Go.Sort
set_option linter.unusedVariables false
set_option linter.unusedSimpArgs false
set_option maxRecDepth 100000 in
set_option maxHeartbeats 3200000 in
theorem rown1 (c : Cf) (t : c.Typed) (w : World) : Calls Try.prog 48 #[c.val, .int .i64 1] w fun e w' => e = .returned (.int .i64 (wiE c.step 4562254508917369340 4621819117588971520)) ∧ Below w.heap.size w w' := by
  have y := rwithin_any c.step 4562254508917369340 4621819117588971520 t.step (by decide) (by decide)
  generalize wiE c.step 4562254508917369340 4621819117588971520 = e at *
  generalize wiV c.step 4562254508917369340 4621819117588971520 = v at *
  unfold Cf.val
  clear t
  go_enter Try.func48, Try.ntmps48
  go_wp2_with fail
  go_quiet (first | (go_at_call 55; exact quiet_eq (y _)))
  go_wp2_with fail
  go_ret
  exact ⟨rfl, by repeat' (first | (with_reducible exact Below.refl _ _) | (with_reducible assumption) | (with_reducible refine below_drewN ?_ _) | (with_reducible refine Below.drew ?_) | (with_reducible refine Below.setCell ?_ ?_ _) | (with_reducible refine Below.alloc ?_ ?_ _) | (simp; done) | (simp; omega) | omega)⟩
set_option maxRecDepth 100000 in
set_option maxHeartbeats 3200000 in
theorem rown2 (c : Cf) (t : c.Typed) (w : World) : Calls Try.prog 48 #[c.val, .int .i64 2] w fun e w' => e = .returned (.int .i64 (wiE c.watch 4607182418800017408 4660134898793709568)) ∧ Below w.heap.size w w' := by
  have y := rwithin_any c.watch 4607182418800017408 4660134898793709568 t.watch (by decide) (by decide)
  generalize wiE c.watch 4607182418800017408 4660134898793709568 = e at *
  generalize wiV c.watch 4607182418800017408 4660134898793709568 = v at *
  unfold Cf.val
  clear t
  go_enter Try.func48, Try.ntmps48
  go_wp2_with fail
  go_quiet (first | (go_at_call 55; exact quiet_eq (y _)))
  go_wp2_with fail
  go_ret
  exact ⟨rfl, by repeat' (first | (with_reducible exact Below.refl _ _) | (with_reducible assumption) | (with_reducible refine below_drewN ?_ _) | (with_reducible refine Below.drew ?_) | (with_reducible refine Below.setCell ?_ ?_ _) | (with_reducible refine Below.alloc ?_ ?_ _) | (simp; done) | (simp; omega) | omega)⟩
set_option maxRecDepth 100000 in
set_option maxHeartbeats 3200000 in
theorem rown3 (c : Cf) (t : c.Typed) (w : World) : Calls Try.prog 48 #[c.val, .int .i64 3] w fun e w' => e = .returned (.int .i64 (wiE c.panic 4607182418800017408 4681608360884174848)) ∧ Below w.heap.size w w' := by
  have y := rwithin_any c.panic 4607182418800017408 4681608360884174848 t.panic (by decide) (by decide)
  generalize wiE c.panic 4607182418800017408 4681608360884174848 = e at *
  generalize wiV c.panic 4607182418800017408 4681608360884174848 = v at *
  unfold Cf.val
  clear t
  go_enter Try.func48, Try.ntmps48
  go_wp2_with fail
  go_quiet (first | (go_at_call 55; exact quiet_eq (y _)))
  go_wp2_with fail
  go_ret
  exact ⟨rfl, by repeat' (first | (with_reducible exact Below.refl _ _) | (with_reducible assumption) | (with_reducible refine below_drewN ?_ _) | (with_reducible refine Below.drew ?_) | (with_reducible refine Below.setCell ?_ ?_ _) | (with_reducible refine Below.alloc ?_ ?_ _) | (simp; done) | (simp; omega) | omega)⟩
set_option maxRecDepth 100000 in
set_option maxHeartbeats 3200000 in
theorem rown4 (c : Cf) (t : c.Typed) (w : World) : Calls Try.prog 48 #[c.val, .int .i64 4] w fun e w' => e = .returned (.int .i64 (wiE c.maxrate 4517329193108106637 4591870180066957722)) ∧ Below w.heap.size w w' := by
  have y := rwithin_any c.maxrate 4517329193108106637 4591870180066957722 t.maxrate (by decide) (by decide)
  generalize wiE c.maxrate 4517329193108106637 4591870180066957722 = e at *
  generalize wiV c.maxrate 4517329193108106637 4591870180066957722 = v at *
  unfold Cf.val
  clear t
  go_enter Try.func48, Try.ntmps48
  go_wp2_with fail
  go_quiet (first | (go_at_call 55; exact quiet_eq (y _)))
  go_wp2_with fail
  go_ret
  exact ⟨rfl, by repeat' (first | (with_reducible exact Below.refl _ _) | (with_reducible assumption) | (with_reducible refine below_drewN ?_ _) | (with_reducible refine Below.drew ?_) | (with_reducible refine Below.setCell ?_ ?_ _) | (with_reducible refine Below.alloc ?_ ?_ _) | (simp; done) | (simp; omega) | omega)⟩
set_option maxRecDepth 100000 in
set_option maxHeartbeats 3200000 in
theorem rown5 (c : Cf) (t : c.Typed) (w : World) : Calls Try.prog 48 #[c.val, .int .i64 5] w fun e w' => e = .returned (.int .i64 (wiE c.phi 0 4576918229304087675)) ∧ Below w.heap.size w w' := by
  have y := rwithin_any c.phi 0 4576918229304087675 t.phi (by decide) (by decide)
  generalize wiE c.phi 0 4576918229304087675 = e at *
  generalize wiV c.phi 0 4576918229304087675 = v at *
  unfold Cf.val
  clear t
  go_enter Try.func48, Try.ntmps48
  go_wp2_with fail
  go_quiet (first | (go_at_call 55; exact quiet_eq (y _)))
  go_wp2_with fail
  go_ret
  exact ⟨rfl, by repeat' (first | (with_reducible exact Below.refl _ _) | (with_reducible assumption) | (with_reducible refine below_drewN ?_ _) | (with_reducible refine Below.drew ?_) | (with_reducible refine Below.setCell ?_ ?_ _) | (with_reducible refine Below.alloc ?_ ?_ _) | (simp; done) | (simp; omega) | omega)⟩
set_option maxRecDepth 100000 in
set_option maxHeartbeats 3200000 in
theorem rown6 (c : Cf) (t : c.Typed) (w : World) : Calls Try.prog 48 #[c.val, .int .i64 6] w fun e w' => e = .returned (.int .i64 (wiE c.maxdist 4576918229304087675 4625196817309499392)) ∧ Below w.heap.size w w' := by
  have y := rwithin_any c.maxdist 4576918229304087675 4625196817309499392 t.maxdist (by decide) (by decide)
  generalize wiE c.maxdist 4576918229304087675 4625196817309499392 = e at *
  generalize wiV c.maxdist 4576918229304087675 4625196817309499392 = v at *
  unfold Cf.val
  clear t
  go_enter Try.func48, Try.ntmps48
  go_wp2_with fail
  go_quiet (first | (go_at_call 55; exact quiet_eq (y _)))
  go_wp2_with fail
  go_ret
  exact ⟨rfl, by repeat' (first | (with_reducible exact Below.refl _ _) | (with_reducible assumption) | (with_reducible refine below_drewN ?_ _) | (with_reducible refine Below.drew ?_) | (with_reducible refine Below.setCell ?_ ?_ _) | (with_reducible refine Below.alloc ?_ ?_ _) | (simp; done) | (simp; omega) | omega)⟩
set_option maxRecDepth 100000 in
set_option maxHeartbeats 3200000 in
theorem rown7 (c : Cf) (t : c.Typed) (w : World) : Calls Try.prog 48 #[c.val, .int .i64 7] w fun e w' => e = .returned (.int .i64 (wiE c.gate 4607182418800017408 4636737291354636288)) ∧ Below w.heap.size w w' := by
  have y := rwithin_any c.gate 4607182418800017408 4636737291354636288 t.gate (by decide) (by decide)
  generalize wiE c.gate 4607182418800017408 4636737291354636288 = e at *
  generalize wiV c.gate 4607182418800017408 4636737291354636288 = v at *
  unfold Cf.val
  clear t
  go_enter Try.func48, Try.ntmps48
  go_wp2_with fail
  go_quiet (first | (go_at_call 55; exact quiet_eq (y _)))
  go_wp2_with fail
  go_ret
  exact ⟨rfl, by repeat' (first | (with_reducible exact Below.refl _ _) | (with_reducible assumption) | (with_reducible refine below_drewN ?_ _) | (with_reducible refine Below.drew ?_) | (with_reducible refine Below.setCell ?_ ?_ _) | (with_reducible refine Below.alloc ?_ ?_ _) | (simp; done) | (simp; omega) | omega)⟩
end Go.Proofs.Ytfanijdemephoaa.W
