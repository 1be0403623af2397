/- Layer 10's own code, walked: how a field is read, put, bounded. -/
import Derived.Test.YtlidlmgmijndcaaGreatStE
import Derived.Test.YtlidlmgmijndcaaGreatFyD
import Derived.Test.YtlidlmgmijndcaaGreatQtB
import Derived.BigQuiet
namespace Go.Proofs.YtlidlmgmijndcaaGreat.W
open Go.RowKit Go.Sort
set_option linter.unusedVariables false
set_option linter.unusedSimpArgs false
set_option maxRecDepth 100000 in
set_option maxHeartbeats 1600000 in
theorem gof1 (c : Cf) (w : World) : Calls Tryz.prog 46 #[c.val] w fun e w' => e = .returned (.float .f64 c.step) ∧ Below w.heap.size w w' := by
  unfold Cf.val
  go_enter Tryz.func46, Tryz.ntmps46
  go_wp2
  go_ret
  exact ⟨rfl, by repeat' (first | (with_reducible exact Below.refl _ _) | (with_reducible assumption) | (with_reducible refine below_drewN ?_ _) | (with_reducible refine Below.drew ?_) | (with_reducible refine Below.setCell ?_ ?_ _) | (with_reducible refine Below.alloc ?_ ?_ _) | (simp; done) | (simp; omega) | omega)⟩
set_option maxRecDepth 100000 in
set_option maxHeartbeats 1600000 in
theorem gput1 (p : Nat) (n : Int) (w : World) (x : Value) (hx : w.cell? ⟨p, 0, none⟩ = some x) (hz : ∀ j, w.frozen? ⟨p, j, none⟩ = false) : Calls Tryz.prog 47 #[.pointer (some ⟨p, 0, none⟩), .int .i64 n] w fun e w' => e = .returned (.tuple #[]) ∧ w' = w.setCell ⟨p, 0, none⟩ (.int .i64 n) := by
  go_enter Tryz.func47, Tryz.ntmps47
  go_wp2_with fail
  go_end0
  exact ⟨rfl, rfl⟩
set_option maxRecDepth 100000 in
set_option maxHeartbeats 1600000 in
theorem gof2 (c : Cf) (w : World) : Calls Tryz.prog 48 #[c.val] w fun e w' => e = .returned (.float .f64 c.watch) ∧ Below w.heap.size w w' := by
  unfold Cf.val
  go_enter Tryz.func48, Tryz.ntmps48
  go_wp2
  go_ret
  exact ⟨rfl, by repeat' (first | (with_reducible exact Below.refl _ _) | (with_reducible assumption) | (with_reducible refine below_drewN ?_ _) | (with_reducible refine Below.drew ?_) | (with_reducible refine Below.setCell ?_ ?_ _) | (with_reducible refine Below.alloc ?_ ?_ _) | (simp; done) | (simp; omega) | omega)⟩
set_option maxRecDepth 100000 in
set_option maxHeartbeats 1600000 in
theorem gput2 (p : Nat) (n : Int) (w : World) (x : Value) (hx : w.cell? ⟨p, 1, none⟩ = some x) (hz : ∀ j, w.frozen? ⟨p, j, none⟩ = false) : Calls Tryz.prog 49 #[.pointer (some ⟨p, 0, none⟩), .int .i64 n] w fun e w' => e = .returned (.tuple #[]) ∧ w' = w.setCell ⟨p, 1, none⟩ (.int .i64 n) := by
  go_enter Tryz.func49, Tryz.ntmps49
  go_wp2_with fail
  go_end0
  exact ⟨rfl, rfl⟩
set_option maxRecDepth 100000 in
set_option maxHeartbeats 1600000 in
theorem gof3 (c : Cf) (w : World) : Calls Tryz.prog 50 #[c.val] w fun e w' => e = .returned (.float .f64 c.panic) ∧ Below w.heap.size w w' := by
  unfold Cf.val
  go_enter Tryz.func50, Tryz.ntmps50
  go_wp2
  go_ret
  exact ⟨rfl, by repeat' (first | (with_reducible exact Below.refl _ _) | (with_reducible assumption) | (with_reducible refine below_drewN ?_ _) | (with_reducible refine Below.drew ?_) | (with_reducible refine Below.setCell ?_ ?_ _) | (with_reducible refine Below.alloc ?_ ?_ _) | (simp; done) | (simp; omega) | omega)⟩
set_option maxRecDepth 100000 in
set_option maxHeartbeats 1600000 in
theorem gput3 (p : Nat) (n : Int) (w : World) (x : Value) (hx : w.cell? ⟨p, 2, none⟩ = some x) (hz : ∀ j, w.frozen? ⟨p, j, none⟩ = false) : Calls Tryz.prog 51 #[.pointer (some ⟨p, 0, none⟩), .int .i64 n] w fun e w' => e = .returned (.tuple #[]) ∧ w' = w.setCell ⟨p, 2, none⟩ (.int .i64 n) := by
  go_enter Tryz.func51, Tryz.ntmps51
  go_wp2_with fail
  go_end0
  exact ⟨rfl, rfl⟩
set_option maxRecDepth 100000 in
set_option maxHeartbeats 1600000 in
theorem gof4 (c : Cf) (w : World) : Calls Tryz.prog 52 #[c.val] w fun e w' => e = .returned (.float .f64 c.maxrate) ∧ Below w.heap.size w w' := by
  unfold Cf.val
  go_enter Tryz.func52, Tryz.ntmps52
  go_wp2
  go_ret
  exact ⟨rfl, by repeat' (first | (with_reducible exact Below.refl _ _) | (with_reducible assumption) | (with_reducible refine below_drewN ?_ _) | (with_reducible refine Below.drew ?_) | (with_reducible refine Below.setCell ?_ ?_ _) | (with_reducible refine Below.alloc ?_ ?_ _) | (simp; done) | (simp; omega) | omega)⟩
set_option maxRecDepth 100000 in
set_option maxHeartbeats 1600000 in
theorem gput4 (p : Nat) (n : Int) (w : World) (x : Value) (hx : w.cell? ⟨p, 3, none⟩ = some x) (hz : ∀ j, w.frozen? ⟨p, j, none⟩ = false) : Calls Tryz.prog 53 #[.pointer (some ⟨p, 0, none⟩), .int .i64 n] w fun e w' => e = .returned (.tuple #[]) ∧ w' = w.setCell ⟨p, 3, none⟩ (.int .i64 n) := by
  go_enter Tryz.func53, Tryz.ntmps53
  go_wp2_with fail
  go_end0
  exact ⟨rfl, rfl⟩
set_option maxRecDepth 100000 in
set_option maxHeartbeats 1600000 in
theorem gof5 (c : Cf) (w : World) : Calls Tryz.prog 54 #[c.val] w fun e w' => e = .returned (.float .f64 c.phi) ∧ Below w.heap.size w w' := by
  unfold Cf.val
  go_enter Tryz.func54, Tryz.ntmps54
  go_wp2
  go_ret
  exact ⟨rfl, by repeat' (first | (with_reducible exact Below.refl _ _) | (with_reducible assumption) | (with_reducible refine below_drewN ?_ _) | (with_reducible refine Below.drew ?_) | (with_reducible refine Below.setCell ?_ ?_ _) | (with_reducible refine Below.alloc ?_ ?_ _) | (simp; done) | (simp; omega) | omega)⟩
set_option maxRecDepth 100000 in
set_option maxHeartbeats 1600000 in
theorem gput5 (p : Nat) (n : Int) (w : World) (x : Value) (hx : w.cell? ⟨p, 4, none⟩ = some x) (hz : ∀ j, w.frozen? ⟨p, j, none⟩ = false) : Calls Tryz.prog 55 #[.pointer (some ⟨p, 0, none⟩), .int .i64 n] w fun e w' => e = .returned (.tuple #[]) ∧ w' = w.setCell ⟨p, 4, none⟩ (.int .i64 n) := by
  go_enter Tryz.func55, Tryz.ntmps55
  go_wp2_with fail
  go_end0
  exact ⟨rfl, rfl⟩
set_option maxRecDepth 100000 in
set_option maxHeartbeats 1600000 in
theorem gof6 (c : Cf) (w : World) : Calls Tryz.prog 56 #[c.val] w fun e w' => e = .returned (.float .f64 c.maxdist) ∧ Below w.heap.size w w' := by
  unfold Cf.val
  go_enter Tryz.func56, Tryz.ntmps56
  go_wp2
  go_ret
  exact ⟨rfl, by repeat' (first | (with_reducible exact Below.refl _ _) | (with_reducible assumption) | (with_reducible refine below_drewN ?_ _) | (with_reducible refine Below.drew ?_) | (with_reducible refine Below.setCell ?_ ?_ _) | (with_reducible refine Below.alloc ?_ ?_ _) | (simp; done) | (simp; omega) | omega)⟩
set_option maxRecDepth 100000 in
set_option maxHeartbeats 1600000 in
theorem gput6 (p : Nat) (n : Int) (w : World) (x : Value) (hx : w.cell? ⟨p, 5, none⟩ = some x) (hz : ∀ j, w.frozen? ⟨p, j, none⟩ = false) : Calls Tryz.prog 57 #[.pointer (some ⟨p, 0, none⟩), .int .i64 n] w fun e w' => e = .returned (.tuple #[]) ∧ w' = w.setCell ⟨p, 5, none⟩ (.int .i64 n) := by
  go_enter Tryz.func57, Tryz.ntmps57
  go_wp2_with fail
  go_end0
  exact ⟨rfl, rfl⟩
set_option maxRecDepth 100000 in
set_option maxHeartbeats 1600000 in
theorem gof7 (c : Cf) (w : World) : Calls Tryz.prog 58 #[c.val] w fun e w' => e = .returned (.float .f64 c.gate) ∧ Below w.heap.size w w' := by
  unfold Cf.val
  go_enter Tryz.func58, Tryz.ntmps58
  go_wp2
  go_ret
  exact ⟨rfl, by repeat' (first | (with_reducible exact Below.refl _ _) | (with_reducible assumption) | (with_reducible refine below_drewN ?_ _) | (with_reducible refine Below.drew ?_) | (with_reducible refine Below.setCell ?_ ?_ _) | (with_reducible refine Below.alloc ?_ ?_ _) | (simp; done) | (simp; omega) | omega)⟩
set_option maxRecDepth 100000 in
set_option maxHeartbeats 1600000 in
theorem gput7 (p : Nat) (n : Int) (w : World) (x : Value) (hx : w.cell? ⟨p, 6, none⟩ = some x) (hz : ∀ j, w.frozen? ⟨p, j, none⟩ = false) : Calls Tryz.prog 59 #[.pointer (some ⟨p, 0, none⟩), .int .i64 n] w fun e w' => e = .returned (.tuple #[]) ∧ w' = w.setCell ⟨p, 6, none⟩ (.int .i64 n) := by
  go_enter Tryz.func59, Tryz.ntmps59
  go_wp2_with fail
  go_end0
  exact ⟨rfl, rfl⟩
set_option maxRecDepth 100000 in
set_option maxHeartbeats 1600000 in
theorem gof8 (c : Cf) (w : World) : Calls Tryz.prog 61 #[c.val] w fun e w' => e = .returned (.int .i64 c.minpoll) ∧ Below w.heap.size w w' := by
  unfold Cf.val
  go_enter Tryz.func61, Tryz.ntmps61
  go_wp2
  go_ret
  exact ⟨rfl, by repeat' (first | (with_reducible exact Below.refl _ _) | (with_reducible assumption) | (with_reducible refine below_drewN ?_ _) | (with_reducible refine Below.drew ?_) | (with_reducible refine Below.setCell ?_ ?_ _) | (with_reducible refine Below.alloc ?_ ?_ _) | (simp; done) | (simp; omega) | omega)⟩
set_option maxRecDepth 100000 in
set_option maxHeartbeats 1600000 in
theorem gput8 (p : Nat) (n : Int) (w : World) (x : Value) (hx : w.cell? ⟨p, 7, none⟩ = some x) (hz : ∀ j, w.frozen? ⟨p, j, none⟩ = false) : Calls Tryz.prog 62 #[.pointer (some ⟨p, 0, none⟩), .int .i64 n] w fun e w' => e = .returned (.tuple #[]) ∧ w' = w.setCell ⟨p, 7, none⟩ (.int .i64 n) := by
  go_enter Tryz.func62, Tryz.ntmps62
  go_wp2_with fail
  go_end0
  exact ⟨rfl, rfl⟩
set_option maxRecDepth 100000 in
set_option maxHeartbeats 1600000 in
theorem gof9 (c : Cf) (w : World) : Calls Tryz.prog 63 #[c.val] w fun e w' => e = .returned (.int .i64 c.maxpoll) ∧ Below w.heap.size w w' := by
  unfold Cf.val
  go_enter Tryz.func63, Tryz.ntmps63
  go_wp2
  go_ret
  exact ⟨rfl, by repeat' (first | (with_reducible exact Below.refl _ _) | (with_reducible assumption) | (with_reducible refine below_drewN ?_ _) | (with_reducible refine Below.drew ?_) | (with_reducible refine Below.setCell ?_ ?_ _) | (with_reducible refine Below.alloc ?_ ?_ _) | (simp; done) | (simp; omega) | omega)⟩
set_option maxRecDepth 100000 in
set_option maxHeartbeats 1600000 in
theorem gput9 (p : Nat) (n : Int) (w : World) (x : Value) (hx : w.cell? ⟨p, 8, none⟩ = some x) (hz : ∀ j, w.frozen? ⟨p, j, none⟩ = false) : Calls Tryz.prog 64 #[.pointer (some ⟨p, 0, none⟩), .int .i64 n] w fun e w' => e = .returned (.tuple #[]) ∧ w' = w.setCell ⟨p, 8, none⟩ (.int .i64 n) := by
  go_enter Tryz.func64, Tryz.ntmps64
  go_wp2_with fail
  go_end0
  exact ⟨rfl, rfl⟩
set_option maxRecDepth 100000 in
set_option maxHeartbeats 1600000 in
theorem gof10 (c : Cf) (w : World) : Calls Tryz.prog 65 #[c.val] w fun e w' => e = .returned (.int .i64 c.burst) ∧ Below w.heap.size w w' := by
  unfold Cf.val
  go_enter Tryz.func65, Tryz.ntmps65
  go_wp2
  go_ret
  exact ⟨rfl, by repeat' (first | (with_reducible exact Below.refl _ _) | (with_reducible assumption) | (with_reducible refine below_drewN ?_ _) | (with_reducible refine Below.drew ?_) | (with_reducible refine Below.setCell ?_ ?_ _) | (with_reducible refine Below.alloc ?_ ?_ _) | (simp; done) | (simp; omega) | omega)⟩
set_option maxRecDepth 100000 in
set_option maxHeartbeats 1600000 in
theorem gput10 (p : Nat) (n : Int) (w : World) (x : Value) (hx : w.cell? ⟨p, 9, none⟩ = some x) (hz : ∀ j, w.frozen? ⟨p, j, none⟩ = false) : Calls Tryz.prog 66 #[.pointer (some ⟨p, 0, none⟩), .int .i64 n] w fun e w' => e = .returned (.tuple #[]) ∧ w' = w.setCell ⟨p, 9, none⟩ (.int .i64 n) := by
  go_enter Tryz.func66, Tryz.ntmps66
  go_wp2_with fail
  go_end0
  exact ⟨rfl, rfl⟩
set_option maxRecDepth 100000 in
set_option maxHeartbeats 1600000 in
theorem gof11 (c : Cf) (w : World) : Calls Tryz.prog 67 #[c.val] w fun e w' => e = .returned (.int .i64 c.minsane) ∧ Below w.heap.size w w' := by
  unfold Cf.val
  go_enter Tryz.func67, Tryz.ntmps67
  go_wp2
  go_ret
  exact ⟨rfl, by repeat' (first | (with_reducible exact Below.refl _ _) | (with_reducible assumption) | (with_reducible refine below_drewN ?_ _) | (with_reducible refine Below.drew ?_) | (with_reducible refine Below.setCell ?_ ?_ _) | (with_reducible refine Below.alloc ?_ ?_ _) | (simp; done) | (simp; omega) | omega)⟩
set_option maxRecDepth 100000 in
set_option maxHeartbeats 1600000 in
theorem gput11 (p : Nat) (n : Int) (w : World) (x : Value) (hx : w.cell? ⟨p, 10, none⟩ = some x) (hz : ∀ j, w.frozen? ⟨p, j, none⟩ = false) : Calls Tryz.prog 68 #[.pointer (some ⟨p, 0, none⟩), .int .i64 n] w fun e w' => e = .returned (.tuple #[]) ∧ w' = w.setCell ⟨p, 10, none⟩ (.int .i64 n) := by
  go_enter Tryz.func68, Tryz.ntmps68
  go_wp2_with fail
  go_end0
  exact ⟨rfl, rfl⟩
set_option maxRecDepth 100000 in
set_option maxHeartbeats 1600000 in
theorem gof12 (c : Cf) (w : World) : Calls Tryz.prog 69 #[c.val] w fun e w' => e = .returned (.int .i64 c.minleft) ∧ Below w.heap.size w w' := by
  unfold Cf.val
  go_enter Tryz.func69, Tryz.ntmps69
  go_wp2
  go_ret
  exact ⟨rfl, by repeat' (first | (with_reducible exact Below.refl _ _) | (with_reducible assumption) | (with_reducible refine below_drewN ?_ _) | (with_reducible refine Below.drew ?_) | (with_reducible refine Below.setCell ?_ ?_ _) | (with_reducible refine Below.alloc ?_ ?_ _) | (simp; done) | (simp; omega) | omega)⟩
set_option maxRecDepth 100000 in
set_option maxHeartbeats 1600000 in
theorem gput12 (p : Nat) (n : Int) (w : World) (x : Value) (hx : w.cell? ⟨p, 11, none⟩ = some x) (hz : ∀ j, w.frozen? ⟨p, j, none⟩ = false) : Calls Tryz.prog 70 #[.pointer (some ⟨p, 0, none⟩), .int .i64 n] w fun e w' => e = .returned (.tuple #[]) ∧ w' = w.setCell ⟨p, 11, none⟩ (.int .i64 n) := by
  go_enter Tryz.func70, Tryz.ntmps70
  go_wp2_with fail
  go_end0
  exact ⟨rfl, rfl⟩
set_option maxRecDepth 100000 in
set_option maxHeartbeats 1600000 in
theorem gfits_any (c : Cf) (w : World) : Calls Tryz.prog 89 #[c.val] w fun e w' => e = .returned (.bool true) ∧ Below w.heap.size w w' := by
  unfold Cf.val
  go_enter Tryz.func89, Tryz.ntmps89
  go_wp2
  go_ret
  exact ⟨rfl, by repeat' (first | (with_reducible exact Below.refl _ _) | (with_reducible assumption) | (with_reducible refine below_drewN ?_ _) | (with_reducible refine Below.drew ?_) | (with_reducible refine Below.setCell ?_ ?_ _) | (with_reducible refine Below.alloc ?_ ?_ _) | (simp; done) | (simp; omega) | omega)⟩
def whV (n l h : Int) : Int := if n < l ∨ h < n then 0 else n
def whE (n l h : Int) : Int := if n < l ∨ h < n then 100 else 0
set_option maxRecDepth 100000 in
set_option maxHeartbeats 1600000 in
theorem gwhole_any (n l h : Int) (w : World) : Calls Tryz.prog 90 #[.int .i64 n, .int .i64 l, .int .i64 h] w fun e w' => e = .returned (.tuple #[.int .i64 (whV n l h), .int .i64 (whE n l h)]) ∧ w = w' := by
  unfold whV whE
  by_cases h1 : n < l
  · rw [if_pos (.inl h1), if_pos (.inl h1)]
    go_enter Tryz.func90, Tryz.ntmps90
    go_wp2_with fail
    go_ret2
    exact ⟨rfl, rfl⟩
  · by_cases h2 : h < n
    · rw [if_pos (.inr h2), if_pos (.inr h2)]
      go_enter Tryz.func90, Tryz.ntmps90
      go_wp2_with fail
      go_ret2
      exact ⟨rfl, rfl⟩
    · rw [if_neg (by omega), if_neg (by omega)]
      go_enter Tryz.func90, Tryz.ntmps90
      go_wp2_with fail
      go_ret2
      exact ⟨rfl, rfl⟩
def fldF (nm : ByteArray) (lo hi : Nat) (f g h : Nat) (cs : Array Value) : Value := .agg #[.string nm, .float .f64 lo, .float .f64 hi, .func (.func f) #[] #[], .func (.func g) #[] #[], .func (.func 88) #[] #[], .func (.func h) #[] cs]
def fldW (nm : ByteArray) (lo hi : Int) (f g h : Nat) (cs : Array Value) : Value := .agg #[.string nm, .int .i64 lo, .int .i64 hi, .func (.func f) #[] #[], .func (.func g) #[] #[], .func (.func 90) #[] #[], .func (.func h) #[] cs]
end Go.Proofs.YtlidlmgmijndcaaGreat.W
