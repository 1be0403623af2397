/- Layer 13 as numbers: samples. No program in it. -/
import Derived.Test.YtkjecjehphgpjaaRcA
import Derived.Test.YtkjecjehphgpjaaFixD
import Derived.Test.YtkjecjehphgpjaaHdZ
namespace Go.Proofs.Ytkjecjehphgpjaa.W
open Go.RowKit
set_option linter.unusedVariables false
structure Smp where
  off : Int
  del : Int
  disp : Int
  at_ : Int
  total : Int
def Smp.val (s : Smp) : Value := .agg #[.int .i64 s.off, .int .i64 s.del, .int .i64 s.disp, .int .i64 s.at_, .int .i64 s.total]
structure Smp.Typed (s : Smp) : Prop where
  off : -9223372036854775808 ≤ s.off ∧ s.off ≤ 9223372036854775807
  del : -9223372036854775808 ≤ s.del ∧ s.del ≤ 9223372036854775807
  disp : -9223372036854775808 ≤ s.disp ∧ s.disp ≤ 9223372036854775807
  at_ : -9223372036854775808 ≤ s.at_ ∧ s.at_ ≤ 9223372036854775807
  total : -9223372036854775808 ≤ s.total ∧ s.total ≤ 9223372036854775807
def Smp.zero : Smp := ⟨0, 0, 0, 0, 0⟩
theorem Smp.val_inj {s t : Smp} (e : s.val = t.val) : s = t := by
  cases s; cases t
  simp [Smp.val] at e
  simp [e]
def powI (n : Int) : Int := shiftI 4294967296 n
theorem subI_range (a b : Int) : -9223372036854775807 ≤ subI a b ∧ subI a b ≤ 9223372036854775807 := cutI_range _
theorem addI_range (a b : Int) : -9223372036854775807 ≤ addI a b ∧ addI a b ≤ 9223372036854775807 := cutI_range _
theorem mulI_range' (a b : Int) : -9223372036854775807 ≤ mulI a b ∧ mulI a b ≤ 9223372036854775807 := cutI_range _
theorem mulI_up {f a b : Int} (hf : 0 ≤ f) (h : a ≤ b) : mulI f a ≤ mulI f b := by
  unfold mulI
  exact cutI_mono (Int.ediv_le_ediv (by decide) (Int.mul_le_mul_of_nonneg_left h hf))
theorem mulI_nought (f : Int) : mulI f 0 = 0 := by
  unfold mulI
  rw [Int.mul_zero]
  rfl
theorem mulI_pos0 {f a : Int} (hf : 0 ≤ f) (h : 0 ≤ a) : 0 ≤ mulI f a := by
  have := mulI_up (f := f) hf h
  rwa [mulI_nought] at this
theorem std_phi : (chkP stdC).phi = 64424 := by
  have hn : ofV 4534972062662729065 = 64424 := by
    obtain ⟨k, hk⟩ : ∃ k, 1005 = k := ⟨_, rfl⟩
    rw [ofV_big (k := k) (c := 8854437155380585) (d := 69) (by omega) (by decide) (by decide) (by decide) (by omega)]
    decide
  unfold chkP
  rw [std_none, if_pos rfl]
  have e : ∀ c : Cf, (setP c).phi = ofV c.phi := fun c => by
    unfold setP
    simp only []
  rw [e]
  exact hn
theorem subI_in (a b : Int) (h : -9223372036854775807 ≤ a - b ∧ a - b ≤ 9223372036854775807) : subI a b = a - b := cutI_in _ h.1 h.2
theorem addI_in (a b : Int) (h : -9223372036854775807 ≤ a + b ∧ a + b ≤ 9223372036854775807) : addI a b = a + b := cutI_in _ h.1 h.2
end Go.Proofs.Ytkjecjehphgpjaa.W
