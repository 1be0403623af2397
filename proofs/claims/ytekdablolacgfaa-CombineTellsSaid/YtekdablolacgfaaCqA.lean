/- Layer 18 as numbers: what those that are kept tell together. No program in it. -/
import Derived.Test.YtekdablolacgfaaRtA
namespace Go.Proofs.Ytekdablolacgfaa.W
open Go.RowKit
set_option linter.unusedVariables false
/-- What an offset weighs. -/
def wtI (d : Int) : Int := max 1 (divI 4294967296 (max d 21474836))
def sumO (o d : List Int) : Nat → Int
  | 0 => 0
  | n + 1 => addI (sumO o d n) (mulI (o.getD n 0) (wtI (d.getD n 0)))
def sumW (d : List Int) : Nat → Int
  | 0 => 0
  | n + 1 => addI (sumW d n) (wtI (d.getD n 0))
def sumJ (o d : List Int) (about : Int) : Nat → Int
  | 0 => 0
  | n + 1 => addI (sumJ o d about n) (mulI (wtI (d.getD n 0)) (mulI (subI (o.getD n 0) about) (subI (o.getD n 0) about)))
def lenC (o d : List Int) : Nat := min o.length d.length
def meanC (o d : List Int) (lo hi : Int) : Int := clampI (divI (sumO o d (lenC o d)) (sumW d (lenC o d))) lo hi
def jitC (o d : List Int) (about : Int) : Int := rootI (divI (sumJ o d about (lenC o d)) (sumW d (lenC o d)))
/-- Which one leads, of n servers, by their strata. -/
def chooseI (str : Nat → Int) (n : Nat) (kept : List Int) (old : Int) : Int :=
  if kept = [] then -1
  else if kept.any (fun k => decide (k < 0 ∨ (n : Int) ≤ k)) = true then -1
  else if kept.any (fun k => decide (k = old)) = true ∧ str old.toNat ≤ str (kept.headD 0).toNat then old
  else kept.headD 0
structure Sy where
  leap : Int
  str : Int
  ref : Int
  off : Int
  jit : Int
  del : Int
  disp : Int
  peer : Int
def Sy.zero : Sy := ⟨0, 0, 0, 0, 0, 0, 0, 0⟩
def Sy.cells (y : Sy) : Array Value := #[.int .i64 y.leap, .int .i64 y.str, .int .u32 y.ref, .int .i64 y.off, .int .i64 y.jit, .int .i64 y.del, .int .i64 y.disp, .int .i64 y.peer]
def Sy.val (y : Sy) : Value := .agg y.cells
def svAt (l : List Sv) (k : Nat) : Sv := l.getD k ⟨0, 0, 0, 0, 0, ⟨0, 0, 0, 0, 0⟩, 0⟩
def offsC (l : List Sv) (kept : List Int) : List Int := kept.map fun k => (svAt l k.toNat).t.off
def distC (p : Pm) (l : List Sv) (kept : List Int) (at_ : Int) : List Int := kept.map fun k => distI p (svAt l k.toNat) at_
def leadI (l : List Sv) (kept : List Int) (old : Int) : Int := chooseI (fun k => (svAt l k).str) l.length kept old
def combB (l : List Sv) (ids : List Int) (kept : List Int) (old : Int) : Bool := decide (0 ≤ leadI l kept old ∧ ids.length = l.length)
def combOff (p : Pm) (l : List Sv) (kept : List Int) (lo hi at_ : Int) : Int := meanC (offsC l kept) (distC p l kept at_) lo hi
def combJit (p : Pm) (l : List Sv) (kept : List Int) (x : Sv) (lo hi at_ : Int) : Int := max (jitC (offsC l kept) (distC p l kept at_) (combOff p l kept lo hi at_)) x.t.jit
def combDisp (p : Pm) (x : Sv) (at_ jit off : Int) : Int := addI (addI (addI (addI x.disp x.t.disp) (mulI p.phi (max 0 (subI at_ x.t.at_)))) jit) (absI off)
def combY (p : Pm) (l : List Sv) (ids : List Int) (kept : List Int) (old lo hi at_ : Int) : Sy :=
  if combB l ids kept old = true then
    ⟨(svAt l (leadI l kept old).toNat).leap, min (svAt l (leadI l kept old).toNat).str 999 + 1, ids.getD (leadI l kept old).toNat 0, combOff p l kept lo hi at_,
      combJit p l kept (svAt l (leadI l kept old).toNat) lo hi at_, addI (svAt l (leadI l kept old).toNat).del (svAt l (leadI l kept old).toNat).t.del,
      combDisp p (svAt l (leadI l kept old).toNat) at_ (combJit p l kept (svAt l (leadI l kept old).toNat) lo hi at_) (combOff p l kept lo hi at_), leadI l kept old⟩
  else Sy.zero
theorem wt_range (d : Int) (h : d ≤ 9223372036854775807) : 1 ≤ wtI d ∧ wtI d ≤ 858993478400 := by
  have hx : 21474836 ≤ max d 21474836 := by omega
  have hy : max d 21474836 ≤ 9223372036854775807 := by omega
  unfold wtI
  generalize max d 21474836 = x at *
  have e : divI 4294967296 x = cutI (18446744073709551616 / x) := by
    unfold divI
    rw [if_neg (by omega), if_pos (by omega)]
    rfl
  rw [e]
  have h1 : 18446744073709551616 / x ≤ 18446744073709551616 / 21474836 := by
    rw [Int.le_ediv_iff_mul_le (by decide)]
    have h2 := Int.mul_ediv_self_le (x := 18446744073709551616) (k := x) (by omega)
    have h3 : 0 ≤ 18446744073709551616 / x := Int.ediv_nonneg (by decide) (by omega)
    have h4 : 18446744073709551616 / x * 21474836 ≤ 18446744073709551616 / x * x := Int.mul_le_mul_of_nonneg_left hx h3
    rw [Int.mul_comm x] at h2
    omega
  have h3 : 0 ≤ 18446744073709551616 / x := Int.ediv_nonneg (by decide) (by omega)
  have h5 : (18446744073709551616 : Int) / 21474836 = 858993478400 := by decide
  unfold cutI
  omega
end Go.Proofs.Ytekdablolacgfaa.W
