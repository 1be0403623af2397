/- Layer 6 as lists of bytes: fields behind a header, walked and joined. No program in it. -/
import Derived.Test.YtekdablolacgfaaGreatHdZ
namespace Go.Proofs.YtekdablolacgfaaGreat.W
open Go.RowKit
set_option linter.unusedVariables false
/-- A field. -/
structure Fd where
  ty : Int
  body : List UInt8
def macN (n : Nat) : Bool := n == 0 || n == 4 || n == 20 || n == 24
/-- The length that the field ahead says. -/
def fdLen (s : List UInt8) : Nat := (num (cut s 2 4)).toNat
def fdBad (s : List UInt8) : Bool := decide (fdLen s < 16) || !(fdLen s % 4 == 0) || decide (s.length < fdLen s)
def fdHead (s : List UInt8) : Fd := ⟨num (cut s 0 2), cut s 4 (fdLen s)⟩
/-- The walk, so many steps at most. -/
def wk : Nat → List UInt8 → Option (List Fd × List UInt8)
  | 0, _ => none
  | k + 1, s =>
    if s.length ≤ 24 then (if macN s.length then some ([], s) else none)
    else if fdBad s then none
    else match wk k (s.drop (fdLen s)) with
      | none => none
      | some (l, m) => some (fdHead s :: l, m)
end Go.Proofs.YtekdablolacgfaaGreat.W
