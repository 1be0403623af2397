/- Layer 10's own code, walked: how a field is read, put, bounded. -/
import Derived.Test.YtkjecjehphgpjaaStE
import Derived.Test.YtkjecjehphgpjaaFyD
import Derived.Test.YtkjecjehphgpjaaQtB
import Derived.BigQuiet
namespace Go.Proofs.Ytkjecjehphgpjaa.W
open Go.RowKit Go.Sort
set_option linter.unusedVariables false
set_option linter.unusedSimpArgs false
set_option maxRecDepth 100000 in
set_option maxHeartbeats 1600000 in
theorem gof1 (c : Cf) (w : World) : Calls Try.prog 33 #[c.val] w fun e w' => e = .returned (.float .f64 c.step) ∧ Below w.heap.size w w' := by
  unfold Cf.val
  go_enter Try.func33, Try.ntmps33
  go_wp2
  go_ret
  exact ⟨rfl, by repeat' (first | (with_reducible exact Below.refl _ _) | (with_reducible assumption) | (with_reducible refine below_drewN ?_ _) | (with_reducible refine Below.drew ?_) | (with_reducible refine Below.setCell ?_ ?_ _) | (with_reducible refine Below.alloc ?_ ?_ _) | (simp; done) | (simp; omega) | omega)⟩
set_option maxRecDepth 100000 in
set_option maxHeartbeats 1600000 in
theorem gput1 (p : Nat) (n : Int) (w : World) (x : Value) (hx : w.cell? ⟨p, 0, none⟩ = some x) (hz : ∀ j, w.frozen? ⟨p, j, none⟩ = false) : Calls Try.prog 34 #[.pointer (some ⟨p, 0, none⟩), .int .i64 n] w fun e w' => e = .returned (.tuple #[]) ∧ w' = w.setCell ⟨p, 0, none⟩ (.int .i64 n) := by
  go_enter Try.func34, Try.ntmps34
  go_wp2_with fail
  go_end0
  exact ⟨rfl, rfl⟩
set_option maxRecDepth 100000 in
set_option maxHeartbeats 1600000 in
theorem gof2 (c : Cf) (w : World) : Calls Try.prog 35 #[c.val] w fun e w' => e = .returned (.float .f64 c.watch) ∧ Below w.heap.size w w' := by
  unfold Cf.val
  go_enter Try.func35, Try.ntmps35
  go_wp2
  go_ret
  exact ⟨rfl, by repeat' (first | (with_reducible exact Below.refl _ _) | (with_reducible assumption) | (with_reducible refine below_drewN ?_ _) | (with_reducible refine Below.drew ?_) | (with_reducible refine Below.setCell ?_ ?_ _) | (with_reducible refine Below.alloc ?_ ?_ _) | (simp; done) | (simp; omega) | omega)⟩
set_option maxRecDepth 100000 in
set_option maxHeartbeats 1600000 in
theorem gput2 (p : Nat) (n : Int) (w : World) (x : Value) (hx : w.cell? ⟨p, 1, none⟩ = some x) (hz : ∀ j, w.frozen? ⟨p, j, none⟩ = false) : Calls Try.prog 36 #[.pointer (some ⟨p, 0, none⟩), .int .i64 n] w fun e w' => e = .returned (.tuple #[]) ∧ w' = w.setCell ⟨p, 1, none⟩ (.int .i64 n) := by
  go_enter Try.func36, Try.ntmps36
  go_wp2_with fail
  go_end0
  exact ⟨rfl, rfl⟩
set_option maxRecDepth 100000 in
set_option maxHeartbeats 1600000 in
theorem gof3 (c : Cf) (w : World) : Calls Try.prog 37 #[c.val] w fun e w' => e = .returned (.float .f64 c.panic) ∧ Below w.heap.size w w' := by
  unfold Cf.val
  go_enter Try.func37, Try.ntmps37
  go_wp2
  go_ret
  exact ⟨rfl, by repeat' (first | (with_reducible exact Below.refl _ _) | (with_reducible assumption) | (with_reducible refine below_drewN ?_ _) | (with_reducible refine Below.drew ?_) | (with_reducible refine Below.setCell ?_ ?_ _) | (with_reducible refine Below.alloc ?_ ?_ _) | (simp; done) | (simp; omega) | omega)⟩
set_option maxRecDepth 100000 in
set_option maxHeartbeats 1600000 in
theorem gput3 (p : Nat) (n : Int) (w : World) (x : Value) (hx : w.cell? ⟨p, 2, none⟩ = some x) (hz : ∀ j, w.frozen? ⟨p, j, none⟩ = false) : Calls Try.prog 38 #[.pointer (some ⟨p, 0, none⟩), .int .i64 n] w fun e w' => e = .returned (.tuple #[]) ∧ w' = w.setCell ⟨p, 2, none⟩ (.int .i64 n) := by
  go_enter Try.func38, Try.ntmps38
  go_wp2_with fail
  go_end0
  exact ⟨rfl, rfl⟩
set_option maxRecDepth 100000 in
set_option maxHeartbeats 1600000 in
theorem gof4 (c : Cf) (w : World) : Calls Try.prog 39 #[c.val] w fun e w' => e = .returned (.float .f64 c.maxrate) ∧ Below w.heap.size w w' := by
  unfold Cf.val
  go_enter Try.func39, Try.ntmps39
  go_wp2
  go_ret
  exact ⟨rfl, by repeat' (first | (with_reducible exact Below.refl _ _) | (with_reducible assumption) | (with_reducible refine below_drewN ?_ _) | (with_reducible refine Below.drew ?_) | (with_reducible refine Below.setCell ?_ ?_ _) | (with_reducible refine Below.alloc ?_ ?_ _) | (simp; done) | (simp; omega) | omega)⟩
set_option maxRecDepth 100000 in
set_option maxHeartbeats 1600000 in
theorem gput4 (p : Nat) (n : Int) (w : World) (x : Value) (hx : w.cell? ⟨p, 3, none⟩ = some x) (hz : ∀ j, w.frozen? ⟨p, j, none⟩ = false) : Calls Try.prog 40 #[.pointer (some ⟨p, 0, none⟩), .int .i64 n] w fun e w' => e = .returned (.tuple #[]) ∧ w' = w.setCell ⟨p, 3, none⟩ (.int .i64 n) := by
  go_enter Try.func40, Try.ntmps40
  go_wp2_with fail
  go_end0
  exact ⟨rfl, rfl⟩
set_option maxRecDepth 100000 in
set_option maxHeartbeats 1600000 in
theorem gof5 (c : Cf) (w : World) : Calls Try.prog 41 #[c.val] w fun e w' => e = .returned (.float .f64 c.phi) ∧ Below w.heap.size w w' := by
  unfold Cf.val
  go_enter Try.func41, Try.ntmps41
  go_wp2
  go_ret
  exact ⟨rfl, by repeat' (first | (with_reducible exact Below.refl _ _) | (with_reducible assumption) | (with_reducible refine below_drewN ?_ _) | (with_reducible refine Below.drew ?_) | (with_reducible refine Below.setCell ?_ ?_ _) | (with_reducible refine Below.alloc ?_ ?_ _) | (simp; done) | (simp; omega) | omega)⟩
set_option maxRecDepth 100000 in
set_option maxHeartbeats 1600000 in
theorem gput5 (p : Nat) (n : Int) (w : World) (x : Value) (hx : w.cell? ⟨p, 4, none⟩ = some x) (hz : ∀ j, w.frozen? ⟨p, j, none⟩ = false) : Calls Try.prog 42 #[.pointer (some ⟨p, 0, none⟩), .int .i64 n] w fun e w' => e = .returned (.tuple #[]) ∧ w' = w.setCell ⟨p, 4, none⟩ (.int .i64 n) := by
  go_enter Try.func42, Try.ntmps42
  go_wp2_with fail
  go_end0
  exact ⟨rfl, rfl⟩
set_option maxRecDepth 100000 in
set_option maxHeartbeats 1600000 in
theorem gof6 (c : Cf) (w : World) : Calls Try.prog 43 #[c.val] w fun e w' => e = .returned (.float .f64 c.maxdist) ∧ Below w.heap.size w w' := by
  unfold Cf.val
  go_enter Try.func43, Try.ntmps43
  go_wp2
  go_ret
  exact ⟨rfl, by repeat' (first | (with_reducible exact Below.refl _ _) | (with_reducible assumption) | (with_reducible refine below_drewN ?_ _) | (with_reducible refine Below.drew ?_) | (with_reducible refine Below.setCell ?_ ?_ _) | (with_reducible refine Below.alloc ?_ ?_ _) | (simp; done) | (simp; omega) | omega)⟩
set_option maxRecDepth 100000 in
set_option maxHeartbeats 1600000 in
theorem gput6 (p : Nat) (n : Int) (w : World) (x : Value) (hx : w.cell? ⟨p, 5, none⟩ = some x) (hz : ∀ j, w.frozen? ⟨p, j, none⟩ = false) : Calls Try.prog 44 #[.pointer (some ⟨p, 0, none⟩), .int .i64 n] w fun e w' => e = .returned (.tuple #[]) ∧ w' = w.setCell ⟨p, 5, none⟩ (.int .i64 n) := by
  go_enter Try.func44, Try.ntmps44
  go_wp2_with fail
  go_end0
  exact ⟨rfl, rfl⟩
set_option maxRecDepth 100000 in
set_option maxHeartbeats 1600000 in
theorem gof7 (c : Cf) (w : World) : Calls Try.prog 45 #[c.val] w fun e w' => e = .returned (.float .f64 c.gate) ∧ Below w.heap.size w w' := by
  unfold Cf.val
  go_enter Try.func45, Try.ntmps45
  go_wp2
  go_ret
  exact ⟨rfl, by repeat' (first | (with_reducible exact Below.refl _ _) | (with_reducible assumption) | (with_reducible refine below_drewN ?_ _) | (with_reducible refine Below.drew ?_) | (with_reducible refine Below.setCell ?_ ?_ _) | (with_reducible refine Below.alloc ?_ ?_ _) | (simp; done) | (simp; omega) | omega)⟩
set_option maxRecDepth 100000 in
set_option maxHeartbeats 1600000 in
theorem gput7 (p : Nat) (n : Int) (w : World) (x : Value) (hx : w.cell? ⟨p, 6, none⟩ = some x) (hz : ∀ j, w.frozen? ⟨p, j, none⟩ = false) : Calls Try.prog 46 #[.pointer (some ⟨p, 0, none⟩), .int .i64 n] w fun e w' => e = .returned (.tuple #[]) ∧ w' = w.setCell ⟨p, 6, none⟩ (.int .i64 n) := by
  go_enter Try.func46, Try.ntmps46
  go_wp2_with fail
  go_end0
  exact ⟨rfl, rfl⟩
set_option maxRecDepth 100000 in
set_option maxHeartbeats 1600000 in
theorem gof8 (c : Cf) (w : World) : Calls Try.prog 48 #[c.val] w fun e w' => e = .returned (.int .i64 c.minpoll) ∧ Below w.heap.size w w' := by
  unfold Cf.val
  go_enter Try.func48, Try.ntmps48
  go_wp2
  go_ret
  exact ⟨rfl, by repeat' (first | (with_reducible exact Below.refl _ _) | (with_reducible assumption) | (with_reducible refine below_drewN ?_ _) | (with_reducible refine Below.drew ?_) | (with_reducible refine Below.setCell ?_ ?_ _) | (with_reducible refine Below.alloc ?_ ?_ _) | (simp; done) | (simp; omega) | omega)⟩
set_option maxRecDepth 100000 in
set_option maxHeartbeats 1600000 in
theorem gput8 (p : Nat) (n : Int) (w : World) (x : Value) (hx : w.cell? ⟨p, 7, none⟩ = some x) (hz : ∀ j, w.frozen? ⟨p, j, none⟩ = false) : Calls Try.prog 49 #[.pointer (some ⟨p, 0, none⟩), .int .i64 n] w fun e w' => e = .returned (.tuple #[]) ∧ w' = w.setCell ⟨p, 7, none⟩ (.int .i64 n) := by
  go_enter Try.func49, Try.ntmps49
  go_wp2_with fail
  go_end0
  exact ⟨rfl, rfl⟩
set_option maxRecDepth 100000 in
set_option maxHeartbeats 1600000 in
theorem gof9 (c : Cf) (w : World) : Calls Try.prog 50 #[c.val] w fun e w' => e = .returned (.int .i64 c.maxpoll) ∧ Below w.heap.size w w' := by
  unfold Cf.val
  go_enter Try.func50, Try.ntmps50
  go_wp2
  go_ret
  exact ⟨rfl, by repeat' (first | (with_reducible exact Below.refl _ _) | (with_reducible assumption) | (with_reducible refine below_drewN ?_ _) | (with_reducible refine Below.drew ?_) | (with_reducible refine Below.setCell ?_ ?_ _) | (with_reducible refine Below.alloc ?_ ?_ _) | (simp; done) | (simp; omega) | omega)⟩
set_option maxRecDepth 100000 in
set_option maxHeartbeats 1600000 in
theorem gput9 (p : Nat) (n : Int) (w : World) (x : Value) (hx : w.cell? ⟨p, 8, none⟩ = some x) (hz : ∀ j, w.frozen? ⟨p, j, none⟩ = false) : Calls Try.prog 51 #[.pointer (some ⟨p, 0, none⟩), .int .i64 n] w fun e w' => e = .returned (.tuple #[]) ∧ w' = w.setCell ⟨p, 8, none⟩ (.int .i64 n) := by
  go_enter Try.func51, Try.ntmps51
  go_wp2_with fail
  go_end0
  exact ⟨rfl, rfl⟩
set_option maxRecDepth 100000 in
set_option maxHeartbeats 1600000 in
theorem gof10 (c : Cf) (w : World) : Calls Try.prog 52 #[c.val] w fun e w' => e = .returned (.int .i64 c.burst) ∧ Below w.heap.size w w' := by
  unfold Cf.val
  go_enter Try.func52, Try.ntmps52
  go_wp2
  go_ret
  exact ⟨rfl, by repeat' (first | (with_reducible exact Below.refl _ _) | (with_reducible assumption) | (with_reducible refine below_drewN ?_ _) | (with_reducible refine Below.drew ?_) | (with_reducible refine Below.setCell ?_ ?_ _) | (with_reducible refine Below.alloc ?_ ?_ _) | (simp; done) | (simp; omega) | omega)⟩
set_option maxRecDepth 100000 in
set_option maxHeartbeats 1600000 in
theorem gput10 (p : Nat) (n : Int) (w : World) (x : Value) (hx : w.cell? ⟨p, 9, none⟩ = some x) (hz : ∀ j, w.frozen? ⟨p, j, none⟩ = false) : Calls Try.prog 53 #[.pointer (some ⟨p, 0, none⟩), .int .i64 n] w fun e w' => e = .returned (.tuple #[]) ∧ w' = w.setCell ⟨p, 9, none⟩ (.int .i64 n) := by
  go_enter Try.func53, Try.ntmps53
  go_wp2_with fail
  go_end0
  exact ⟨rfl, rfl⟩
set_option maxRecDepth 100000 in
set_option maxHeartbeats 1600000 in
theorem gof11 (c : Cf) (w : World) : Calls Try.prog 54 #[c.val] w fun e w' => e = .returned (.int .i64 c.minsane) ∧ Below w.heap.size w w' := by
  unfold Cf.val
  go_enter Try.func54, Try.ntmps54
  go_wp2
  go_ret
  exact ⟨rfl, by repeat' (first | (with_reducible exact Below.refl _ _) | (with_reducible assumption) | (with_reducible refine below_drewN ?_ _) | (with_reducible refine Below.drew ?_) | (with_reducible refine Below.setCell ?_ ?_ _) | (with_reducible refine Below.alloc ?_ ?_ _) | (simp; done) | (simp; omega) | omega)⟩
set_option maxRecDepth 100000 in
set_option maxHeartbeats 1600000 in
theorem gput11 (p : Nat) (n : Int) (w : World) (x : Value) (hx : w.cell? ⟨p, 10, none⟩ = some x) (hz : ∀ j, w.frozen? ⟨p, j, none⟩ = false) : Calls Try.prog 55 #[.pointer (some ⟨p, 0, none⟩), .int .i64 n] w fun e w' => e = .returned (.tuple #[]) ∧ w' = w.setCell ⟨p, 10, none⟩ (.int .i64 n) := by
  go_enter Try.func55, Try.ntmps55
  go_wp2_with fail
  go_end0
  exact ⟨rfl, rfl⟩
set_option maxRecDepth 100000 in
set_option maxHeartbeats 1600000 in
theorem gof12 (c : Cf) (w : World) : Calls Try.prog 56 #[c.val] w fun e w' => e = .returned (.int .i64 c.minleft) ∧ Below w.heap.size w w' := by
  unfold Cf.val
  go_enter Try.func56, Try.ntmps56
  go_wp2
  go_ret
  exact ⟨rfl, by repeat' (first | (with_reducible exact Below.refl _ _) | (with_reducible assumption) | (with_reducible refine below_drewN ?_ _) | (with_reducible refine Below.drew ?_) | (with_reducible refine Below.setCell ?_ ?_ _) | (with_reducible refine Below.alloc ?_ ?_ _) | (simp; done) | (simp; omega) | omega)⟩
set_option maxRecDepth 100000 in
set_option maxHeartbeats 1600000 in
theorem gput12 (p : Nat) (n : Int) (w : World) (x : Value) (hx : w.cell? ⟨p, 11, none⟩ = some x) (hz : ∀ j, w.frozen? ⟨p, j, none⟩ = false) : Calls Try.prog 57 #[.pointer (some ⟨p, 0, none⟩), .int .i64 n] w fun e w' => e = .returned (.tuple #[]) ∧ w' = w.setCell ⟨p, 11, none⟩ (.int .i64 n) := by
  go_enter Try.func57, Try.ntmps57
  go_wp2_with fail
  go_end0
  exact ⟨rfl, rfl⟩
set_option maxRecDepth 100000 in
set_option maxHeartbeats 1600000 in
theorem gfits_any (c : Cf) (w : World) : Calls Try.prog 68 #[c.val] w fun e w' => e = .returned (.bool true) ∧ Below w.heap.size w w' := by
  unfold Cf.val
  go_enter Try.func68, Try.ntmps68
  go_wp2
  go_ret
  exact ⟨rfl, by repeat' (first | (with_reducible exact Below.refl _ _) | (with_reducible assumption) | (with_reducible refine below_drewN ?_ _) | (with_reducible refine Below.drew ?_) | (with_reducible refine Below.setCell ?_ ?_ _) | (with_reducible refine Below.alloc ?_ ?_ _) | (simp; done) | (simp; omega) | omega)⟩
def whV (n l h : Int) : Int := if n < l ∨ h < n then 0 else n
def whE (n l h : Int) : Int := if n < l ∨ h < n then 100 else 0
set_option maxRecDepth 100000 in
set_option maxHeartbeats 1600000 in
theorem gwhole_any (n l h : Int) (w : World) : Calls Try.prog 69 #[.int .i64 n, .int .i64 l, .int .i64 h] w fun e w' => e = .returned (.tuple #[.int .i64 (whV n l h), .int .i64 (whE n l h)]) ∧ w = w' := by
  unfold whV whE
  by_cases h1 : n < l
  · rw [if_pos (.inl h1), if_pos (.inl h1)]
    go_enter Try.func69, Try.ntmps69
    go_wp2_with fail
    go_ret2
    exact ⟨rfl, rfl⟩
  · by_cases h2 : h < n
    · rw [if_pos (.inr h2), if_pos (.inr h2)]
      go_enter Try.func69, Try.ntmps69
      go_wp2_with fail
      go_ret2
      exact ⟨rfl, rfl⟩
    · rw [if_neg (by omega), if_neg (by omega)]
      go_enter Try.func69, Try.ntmps69
      go_wp2_with fail
      go_ret2
      exact ⟨rfl, rfl⟩
def fldF (nm : ByteArray) (lo hi : Nat) (f g h : Nat) (cs : Array Value) : Value := .agg #[.string nm, .float .f64 lo, .float .f64 hi, .func (.func f) #[] #[], .func (.func g) #[] #[], .func (.func 67) #[] #[], .func (.func h) #[] cs]
def fldW (nm : ByteArray) (lo hi : Int) (f g h : Nat) (cs : Array Value) : Value := .agg #[.string nm, .int .i64 lo, .int .i64 hi, .func (.func f) #[] #[], .func (.func g) #[] #[], .func (.func 69) #[] #[], .func (.func h) #[] cs]
end Go.Proofs.Ytkjecjehphgpjaa.W
