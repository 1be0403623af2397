/- Layer 14 as numbers: a filter's samples. No program in it. -/
import Derived.Test.YtekdablolacgfaaSmA
namespace Go.Proofs.Ytekdablolacgfaa.W
open Go.RowKit
set_option linter.unusedVariables false
/-- A filter: its samples, the newest one first; what was told last. -/
structure Fl where
  l : List Smp
  had : Bool
  used : Int
  off : Int
  total : Int
  jit : Int
structure Told where
  off : Int
  del : Int
  disp : Int
  jit : Int
  at_ : Int
def Told.zero : Told := ⟨0, 0, 0, 0, 0⟩
def Told.val (t : Told) : Value := .agg #[.int .i64 t.off, .int .i64 t.del, .int .i64 t.disp, .int .i64 t.jit, .int .i64 t.at_]
structure Told.Typed (s : Told) : Prop where
  off : -9223372036854775808 ≤ s.off ∧ s.off ≤ 9223372036854775807
  del : -9223372036854775808 ≤ s.del ∧ s.del ≤ 9223372036854775807
  disp : -9223372036854775808 ≤ s.disp ∧ s.disp ≤ 9223372036854775807
  jit : -9223372036854775808 ≤ s.jit ∧ s.jit ≤ 9223372036854775807
  at_ : -9223372036854775808 ≤ s.at_ ∧ s.at_ ≤ 9223372036854775807
structure Fl.Typed (f : Fl) : Prop where
  l : ∀ s ∈ f.l, s.Typed
  many : f.l.length ≤ 8
  used : -9223372036854775808 ≤ f.used ∧ f.used ≤ 9223372036854775807
  off : -9223372036854775808 ≤ f.off ∧ f.off ≤ 9223372036854775807
  total : -9223372036854775808 ≤ f.total ∧ f.total ≤ 9223372036854775807
  jit : -9223372036854775808 ≤ f.jit ∧ f.jit ≤ 9223372036854775807
/-- The sample in a place; none is zero. -/
def Fl.at_ (f : Fl) (k : Nat) : Smp := f.l.getD k Smp.zero
/-- A filter's cells, written out. -/
def Fl.cells (f : Fl) : Array Value :=
  #[.int .i64 (f.at_ 0).off, .int .i64 (f.at_ 0).del, .int .i64 (f.at_ 0).disp, .int .i64 (f.at_ 0).at_, .int .i64 (f.at_ 0).total,
    .int .i64 (f.at_ 1).off, .int .i64 (f.at_ 1).del, .int .i64 (f.at_ 1).disp, .int .i64 (f.at_ 1).at_, .int .i64 (f.at_ 1).total,
    .int .i64 (f.at_ 2).off, .int .i64 (f.at_ 2).del, .int .i64 (f.at_ 2).disp, .int .i64 (f.at_ 2).at_, .int .i64 (f.at_ 2).total,
    .int .i64 (f.at_ 3).off, .int .i64 (f.at_ 3).del, .int .i64 (f.at_ 3).disp, .int .i64 (f.at_ 3).at_, .int .i64 (f.at_ 3).total,
    .int .i64 (f.at_ 4).off, .int .i64 (f.at_ 4).del, .int .i64 (f.at_ 4).disp, .int .i64 (f.at_ 4).at_, .int .i64 (f.at_ 4).total,
    .int .i64 (f.at_ 5).off, .int .i64 (f.at_ 5).del, .int .i64 (f.at_ 5).disp, .int .i64 (f.at_ 5).at_, .int .i64 (f.at_ 5).total,
    .int .i64 (f.at_ 6).off, .int .i64 (f.at_ 6).del, .int .i64 (f.at_ 6).disp, .int .i64 (f.at_ 6).at_, .int .i64 (f.at_ 6).total,
    .int .i64 (f.at_ 7).off, .int .i64 (f.at_ 7).del, .int .i64 (f.at_ 7).disp, .int .i64 (f.at_ 7).at_, .int .i64 (f.at_ 7).total,
    .int .i64 f.l.length, .bool f.had, .int .i64 f.used, .int .i64 f.off, .int .i64 f.total, .int .i64 f.jit]
def Fl.val (f : Fl) : Value := .agg f.cells
end Go.Proofs.Ytekdablolacgfaa.W
