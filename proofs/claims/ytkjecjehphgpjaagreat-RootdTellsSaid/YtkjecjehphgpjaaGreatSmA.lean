/- Layer 13 as numbers: samples. No program in it. -/
import Derived.Test.YtkjecjehphgpjaaGreatRcA
import Derived.Test.YtkjecjehphgpjaaGreatFixD
import Derived.Test.YtkjecjehphgpjaaGreatHdZ
namespace Go.Proofs.YtkjecjehphgpjaaGreat.W
open Go.RowKit
set_option linter.unusedVariables false
structure Smp where
  off : Int
  del : Int
  disp : Int
  at_ : Int
  total : Int
def Smp.val (s : Smp) : Value := .agg #[.int .i64 s.off, .int .i64 s.del, .int .i64 s.disp, .int .i64 s.at_, .int .i64 s.total]
structure Smp.Typed (s : Smp) : Prop where
  off : -9223372036854775808 ≤ s.off ∧ s.off ≤ 9223372036854775807
  del : -9223372036854775808 ≤ s.del ∧ s.del ≤ 9223372036854775807
  disp : -9223372036854775808 ≤ s.disp ∧ s.disp ≤ 9223372036854775807
  at_ : -9223372036854775808 ≤ s.at_ ∧ s.at_ ≤ 9223372036854775807
  total : -9223372036854775808 ≤ s.total ∧ s.total ≤ 9223372036854775807
def Smp.zero : Smp := ⟨0, 0, 0, 0, 0⟩
theorem Smp.val_inj {s t : Smp} (e : s.val = t.val) : s = t := by
  cases s; cases t
  simp [Smp.val] at e
  simp [e]
def powI (n : Int) : Int := shiftI 4294967296 n
theorem subI_range (a b : Int) : -9223372036854775807 ≤ subI a b ∧ subI a b ≤ 9223372036854775807 := cutI_range _
theorem addI_range (a b : Int) : -9223372036854775807 ≤ addI a b ∧ addI a b ≤ 9223372036854775807 := cutI_range _
theorem mulI_range' (a b : Int) : -9223372036854775807 ≤ mulI a b ∧ mulI a b ≤ 9223372036854775807 := cutI_range _
theorem mulI_nought (f : Int) : mulI f 0 = 0 := by
  unfold mulI
  rw [Int.mul_zero]
  rfl
theorem std_phi : (chkP stdC).phi = 64424 := by
  have hn : ofV 4534972062662729065 = 64424 := by
    obtain ⟨k, hk⟩ : ∃ k, 1005 = k := ⟨_, rfl⟩
    rw [ofV_big (k := k) (c := 8854437155380585) (d := 69) (by omega) (by decide) (by decide) (by decide) (by omega)]
    decide
  unfold chkP
  rw [std_none, if_pos rfl]
  have e : ∀ c : Cf, (setP c).phi = ofV c.phi := fun c => by
    unfold setP
    simp only []
  rw [e]
  exact hn
end Go.Proofs.YtkjecjehphgpjaaGreat.W
