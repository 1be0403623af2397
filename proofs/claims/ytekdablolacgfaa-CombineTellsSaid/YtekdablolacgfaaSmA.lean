/- Layer 13 as numbers: samples. No program in it. -/
import Derived.Test.YtekdablolacgfaaRcA
import Derived.Test.YtekdablolacgfaaFixD
import Derived.Test.YtekdablolacgfaaHdZ
namespace Go.Proofs.Ytekdablolacgfaa.W
open Go.RowKit
set_option linter.unusedVariables false
structure Smp where
  off : Int
  del : Int
  disp : Int
  at_ : Int
  total : Int
def Smp.val (s : Smp) : Value := .agg #[.int .i64 s.off, .int .i64 s.del, .int .i64 s.disp, .int .i64 s.at_, .int .i64 s.total]
structure Smp.Typed (s : Smp) : Prop where
  off : -9223372036854775808 ≤ s.off ∧ s.off ≤ 9223372036854775807
  del : -9223372036854775808 ≤ s.del ∧ s.del ≤ 9223372036854775807
  disp : -9223372036854775808 ≤ s.disp ∧ s.disp ≤ 9223372036854775807
  at_ : -9223372036854775808 ≤ s.at_ ∧ s.at_ ≤ 9223372036854775807
  total : -9223372036854775808 ≤ s.total ∧ s.total ≤ 9223372036854775807
def Smp.zero : Smp := ⟨0, 0, 0, 0, 0⟩
theorem Smp.val_inj {s t : Smp} (e : s.val = t.val) : s = t := by
  cases s; cases t
  simp [Smp.val] at e
  simp [e]
theorem subI_range (a b : Int) : -9223372036854775807 ≤ subI a b ∧ subI a b ≤ 9223372036854775807 := cutI_range _
theorem addI_range (a b : Int) : -9223372036854775807 ≤ addI a b ∧ addI a b ≤ 9223372036854775807 := cutI_range _
theorem mulI_range' (a b : Int) : -9223372036854775807 ≤ mulI a b ∧ mulI a b ≤ 9223372036854775807 := cutI_range _
end Go.Proofs.Ytekdablolacgfaa.W
