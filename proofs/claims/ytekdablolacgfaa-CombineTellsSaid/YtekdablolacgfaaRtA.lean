/- Layer 15 as numbers: how far a server is from the root of time. No program in it. -/
import Derived.Test.YtekdablolacgfaaFrA
import Derived.Test.YtekdablolacgfaaSmA
namespace Go.Proofs.Ytekdablolacgfaa.W
open Go.RowKit
set_option linter.unusedVariables false
structure Sv where
  leap : Int
  str : Int
  ref : Int
  del : Int
  disp : Int
  t : Told
  reg : Int
def Sv.val (s : Sv) : Value := .agg #[.int .i64 s.leap, .int .i64 s.str, .int .u32 s.ref, .int .i64 s.del, .int .i64 s.disp, .int .i64 s.t.off, .int .i64 s.t.del, .int .i64 s.t.disp, .int .i64 s.t.jit, .int .i64 s.t.at_, .int .u8 s.reg]
def svC (s : Sv) : List Value := [.int .i64 s.leap, .int .i64 s.str, .int .u32 s.ref, .int .i64 s.del, .int .i64 s.disp, .int .i64 s.t.off, .int .i64 s.t.del, .int .i64 s.t.disp, .int .i64 s.t.jit, .int .i64 s.t.at_, .int .u8 s.reg]
structure Sv.Typed (s : Sv) : Prop where
  leap : -9223372036854775808 ≤ s.leap ∧ s.leap ≤ 9223372036854775807
  str : -9223372036854775808 ≤ s.str ∧ s.str ≤ 9223372036854775807
  ref : 0 ≤ s.ref ∧ s.ref ≤ 4294967295
  del : -9223372036854775808 ≤ s.del ∧ s.del ≤ 9223372036854775807
  disp : -9223372036854775808 ≤ s.disp ∧ s.disp ≤ 9223372036854775807
  t : s.t.Typed
  reg : 0 ≤ s.reg ∧ s.reg ≤ 255
/-- How far it is, as it was told; by time. -/
def dist0 (s : Sv) : Int := addI (addI (shiftI (max 21474836 (addI s.del s.t.del)) (-1)) s.disp) s.t.disp
def distI (p : Pm) (s : Sv) (at_ : Int) : Int := addI (addI (dist0 s) (mulI p.phi (max 0 (subI at_ s.t.at_)))) s.t.jit
end Go.Proofs.Ytekdablolacgfaa.W
