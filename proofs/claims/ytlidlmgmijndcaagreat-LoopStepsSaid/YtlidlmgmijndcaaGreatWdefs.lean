/- Plain functions on whole numbers that the walks of layer 1 speak of; nothing of the program is imported. -/
import Derived.WalkKit
import Derived.BigQuiet
import Derived.Deep.QuietTactic
import Derived.Below
namespace Go.Proofs.YtlidlmgmijndcaaGreat.W
open Go.RowKit
set_option linter.unusedVariables false
theorem ret1 {k : IntKind} {a b : Int} (h : a = b) : Ending.returned (.int k a) = .returned (.int k b) := by rw [h]
theorem ret1b {a b : Bool} (h : a = b) : Ending.returned (.bool a) = .returned (.bool b) := by rw [h]
theorem ret2 {k l : IntKind} {a b c d : Int} (h : a = b) (g : c = d) : Ending.returned (.tuple #[.int k a, .int l c]) = .returned (.tuple #[.int k b, .int l d]) := by rw [h, g]
theorem ret3 {k l : IntKind} {a b c d : Int} {x y : Bool} (h : a = b) (g : c = d) (i : x = y) : Ending.returned (.tuple #[.int k a, .int l c, .bool x]) = .returned (.tuple #[.int k b, .int l d, .bool y]) := by rw [h, g, i]
theorem quiet_eq {P : Program} {f : FuncId} {args : Array Value} {w : World} {n : Nat} {v : Value}
    (h : Calls P f args (w.drewN n) fun e w' => e = .returned v ∧ w.drewN n = w') : Calls P f args (w.drewN n) fun e w'' => e = .returned v ∧ ∃ m, w'' = w.drewN m :=
  h.mono fun _ _ ⟨he, hm⟩ => ⟨he, n, hm.symm⟩
theorem setCell_drewN (w : World) (a : Addr) (v : Value) (n : Nat) : (w.drewN n).setCell a v = (w.setCell a v).drewN n := rfl
theorem alloc_drewN (w : World) (o : Obj) (n : Nat) : (w.drewN n).alloc o = (w.alloc o).drewN n := rfl
attribute [go_sem] setCell_drewN alloc_drewN
theorem bcell {W w1 : World} (hb : Below W.heap.size W w1) : (∀ b o, b < W.heap.size → w1.cell? ⟨b, o, none⟩ = W.cell? ⟨b, o, none⟩) ∧ (∀ b o, b < W.heap.size → w1.frozen? ⟨b, o, none⟩ = W.frozen? ⟨b, o, none⟩) :=
  ⟨fun b o h => hb.cell (p := ⟨b, o, none⟩) h, fun b o h => hb.frozen (p := ⟨b, o, none⟩) h⟩
theorem below_drewN {B : Nat} {a w : World} (h : Below B a w) (n : Nat) : Below B a (w.drewN n) := ⟨h.os, h.tape, h.output, h.size, h.block⟩
/-- 2^64 times the first and the second. -/
def mulH (a b : Int) : Int := a * b / 18446744073709551616
def mulL (a b : Int) : Int := a * b % 18446744073709551616
def lessB (a b c d : Int) : Bool := decide (a < c) || (decide (a = c) && decide (b < d))
theorem lessB_eq (a b c d : Int) (hb : 0 ≤ b) (hb' : b < 18446744073709551616) (hd : 0 ≤ d) (hd' : d < 18446744073709551616) : lessB a b c d = decide (a * 18446744073709551616 + b < c * 18446744073709551616 + d) := by
  unfold lessB
  rw [Bool.eq_iff_iff]; simp; omega
theorem mul_parts (x0 x1 y0 y1 : Int) (h0 : 0 ≤ x0) (h0' : x0 < 4294967296) (h1 : 0 ≤ x1) (h1' : x1 < 4294967296) (k0 : 0 ≤ y0) (k0' : y0 < 4294967296) (k1 : 0 ≤ y1) (k1' : y1 < 4294967296)
    (p00 p01 p10 p11 : Int) (e00 : p00 = x0 * y0) (e01 : p01 = x0 * y1) (e10 : p10 = x1 * y0) (e11 : p11 = x1 * y1) (b00 : 0 ≤ p00) (b01 : 0 ≤ p01) (b10 : 0 ≤ p10) (b11 : 0 ≤ p11) :
    (((p01 + p00 / 4294967296) / 4294967296 + p11 + ((p01 + p00 / 4294967296) % 4294967296 + p10) / 4294967296) / 4294967296 * 4294967296 + ((p01 + p00 / 4294967296) / 4294967296 + p11 + ((p01 + p00 / 4294967296) % 4294967296 + p10) / 4294967296) % 4294967296) = mulH (x1 * 4294967296 + x0) (y1 * 4294967296 + y0) ∧
    (p01 + p00 / 4294967296 + p10) % 4294967296 * 4294967296 + p00 % 4294967296 = mulL (x1 * 4294967296 + x0) (y1 * 4294967296 + y0) := by
  have e : (x1 * 4294967296 + x0) * (y1 * 4294967296 + y0) = p11 * 18446744073709551616 + (p01 + p10) * 4294967296 + p00 := by
    rw [e00, e01, e10, e11]; grind
  unfold mulH mulL
  rw [e]
  omega
theorem prod_bound (x y : Int) (h0 : 0 ≤ x) (h0' : x < 4294967296) (k0 : 0 ≤ y) (k0' : y < 4294967296) : 0 ≤ x * y ∧ x * y ≤ 18446744065119617025 :=
  ⟨Int.mul_nonneg h0 k0, by
    have h1 : x * y ≤ 4294967295 * y := Int.mul_le_mul_of_nonneg_right (by omega) k0
    omega⟩
end Go.Proofs.YtlidlmgmijndcaaGreat.W
