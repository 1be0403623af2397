/- Layer 15 as numbers: how far a server is from the root of time. No program in it. -/
import Derived.Test.YtkjecjehphgpjaaGreatFrA
import Derived.Test.YtkjecjehphgpjaaGreatSmA
namespace Go.Proofs.YtkjecjehphgpjaaGreat.W
open Go.RowKit
set_option linter.unusedVariables false
structure Sv where
  leap : Int
  str : Int
  ref : Int
  del : Int
  disp : Int
  t : Told
  reg : Int
def Sv.val (s : Sv) : Value := .agg #[.int .i64 s.leap, .int .i64 s.str, .int .u32 s.ref, .int .i64 s.del, .int .i64 s.disp, .int .i64 s.t.off, .int .i64 s.t.del, .int .i64 s.t.disp, .int .i64 s.t.jit, .int .i64 s.t.at_, .int .u8 s.reg]
def svC (s : Sv) : List Value := [.int .i64 s.leap, .int .i64 s.str, .int .u32 s.ref, .int .i64 s.del, .int .i64 s.disp, .int .i64 s.t.off, .int .i64 s.t.del, .int .i64 s.t.disp, .int .i64 s.t.jit, .int .i64 s.t.at_, .int .u8 s.reg]
structure Sv.Typed (s : Sv) : Prop where
  leap : -9223372036854775808 ≤ s.leap ∧ s.leap ≤ 9223372036854775807
  str : -9223372036854775808 ≤ s.str ∧ s.str ≤ 9223372036854775807
  ref : 0 ≤ s.ref ∧ s.ref ≤ 4294967295
  del : -9223372036854775808 ≤ s.del ∧ s.del ≤ 9223372036854775807
  disp : -9223372036854775808 ≤ s.disp ∧ s.disp ≤ 9223372036854775807
  t : s.t.Typed
  reg : 0 ≤ s.reg ∧ s.reg ≤ 255
/-- How far it is, as it was told; by time. -/
def dist0 (s : Sv) : Int := addI (addI (shiftI (max 21474836 (addI s.del s.t.del)) (-1)) s.disp) s.t.disp
def distI (p : Pm) (s : Sv) (at_ : Int) : Int := addI (addI (dist0 s) (mulI p.phi (max 0 (subI at_ s.t.at_)))) s.t.jit
def lowI (p : Pm) (s : Sv) (at_ : Int) : Int := subI s.t.off (distI p s at_)
def highI (p : Pm) (s : Sv) (at_ : Int) : Int := addI s.t.off (distI p s at_)
def limI (p : Pm) (poll : Int) : Int := addI p.maxdist (mulI p.phi (powI poll))
def fitE (p : Pm) (s : Sv) (own poll at_ : Int) : Int :=
  if s.leap = 3 ∨ s.str < 1 ∨ 15 < s.str then 123 else if limI p poll ≤ distI p s at_ then 124 else if 1 < s.str ∧ s.ref = own then 4 else if s.reg = 0 then 3 else 0
def timesI (m : Int) : Nat → Int
  | 0 => 0
  | n + 1 => addI (timesI m n) m
def metI (p : Pm) (s : Sv) (at_ : Int) : Int := addI (timesI p.maxdist (max 0 (min s.str 16)).toNat) (distI p s at_)
/-- Places by a number, the least one first; of the same the earlier one first. -/
def insP (m : Nat → Int) (i : Nat) : List Nat → List Nat
  | [] => [i]
  | x :: r => if m i < m x then i :: x :: r else x :: insP m i r
def sortP (m : Nat → Int) (n : Nat) : List Nat := (List.range n).foldl (fun acc i => insP m i acc) []
theorem dist_range (p : Pm) (s : Sv) (at_ : Int) : -9223372036854775807 ≤ distI p s at_ ∧ distI p s at_ ≤ 9223372036854775807 := addI_range _ _
theorem times_range (m : Int) : ∀ n, -9223372036854775807 ≤ timesI m n ∧ timesI m n ≤ 9223372036854775807
  | 0 => by unfold timesI; decide
  | n + 1 => addI_range _ _
end Go.Proofs.YtkjecjehphgpjaaGreat.W
