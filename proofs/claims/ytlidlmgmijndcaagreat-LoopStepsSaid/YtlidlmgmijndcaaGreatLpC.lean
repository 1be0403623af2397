/- Layer 19 as numbers: what any offset leaves held; when the clock is stepped. No program in it. -/
import Derived.Test.YtlidlmgmijndcaaGreatLpA
namespace Go.Proofs.YtlidlmgmijndcaaGreat.W
open Go.RowKit
set_option linter.unusedVariables false
/-- An offset, and how long it came behind the one ahead of it. -/
structure Of where
  off : Int
  gap : Int
def oferE (o : Of) : List Value := [.int .i64 o.off, .int .u16 o.gap]
structure Of.Typed (o : Of) : Prop where
  off : -9223372036854775808 ≤ o.off ∧ o.off ≤ 9223372036854775807
  gap : 0 ≤ o.gap ∧ o.gap ≤ 65535
structure OkD (p : Pm) (d : Dc) : Prop where
  t : d.Typed
  st : 0 ≤ d.st ∧ d.st ≤ 4
  freq : -p.maxrate ≤ d.freq ∧ d.freq ≤ p.maxrate
  jit : 0 ≤ d.jit
  wan : 0 ≤ d.wan
theorem hold_in {p : Pm} (h : StdL p) (f : Int) : -p.maxrate ≤ holdL p f ∧ holdL p f ≤ p.maxrate := by
  unfold holdL clampI subI cutI
  rw [h.maxrate]
  omega
theorem smooth_typed (a b : Int) : 0 ≤ smoothL a b ∧ smoothL a b ≤ 9223372036854775807 := by
  unfold smoothL
  have h1 := rootI_lt (addI (mulI a a) (shiftI (subI (mulI b b) (mulI a a)) (-2))) (cutI_range _).2
  have h2 := rootI_nonneg (addI (mulI a a) (shiftI (subI (mulI b b) (mulI a a)) (-2)))
  omega
theorem abs_far {o T : Int} (o0 : -9223372036854775808 ≤ o ∧ o ≤ 9223372036854775807) (hT : 0 ≤ T ∧ T < 9223372036854775807) : T < absI o ↔ (T < o ∨ o < -T) := by
  unfold absI sizeI cutI
  omega
theorem step_ok {p : Pm} {d : Dc} {at_ st : Int} (hd : OkD p d) (a0 : -9223372036854775808 ≤ at_ ∧ at_ ≤ 9223372036854775807) (s0 : 0 ≤ st ∧ st ≤ 4) : OkD p (stepL d at_ st) := by
  obtain ⟨⟨t1, t2, t3, t4, t5, t6, t7⟩, s, f, j, w⟩ := hd
  unfold stepL
  refine ⟨⟨?_, ?_, ?_, ?_, ?_, ?_, ?_⟩, ?_, ?_, ?_, ?_⟩ <;> dsimp only <;> omega
theorem take_ok {p : Pm} {d : Dc} {o at_ st : Int} (hd : OkD p d) (o0 : -9223372036854775808 ≤ o ∧ o ≤ 9223372036854775807) (a0 : -9223372036854775808 ≤ at_ ∧ at_ ≤ 9223372036854775807) (s0 : 0 ≤ st ∧ st ≤ 4) : OkD p (takeL d o at_ st) := by
  obtain ⟨⟨t1, t2, t3, t4, t5, t6, t7⟩, s, f, j, w⟩ := hd
  have hs := smooth_typed d.jit (subI o d.off)
  unfold takeL
  generalize smoothL d.jit (subI o d.off) = sm at *
  refine ⟨⟨?_, ?_, ?_, ?_, ?_, ?_, ?_⟩, ?_, ?_, ?_, ?_⟩ <;> dsimp only <;> omega
theorem far_ok {p : Pm} {d : Dc} {o at_ gone : Int} (hd : OkD p d) (a0 : -9223372036854775808 ≤ at_ ∧ at_ ≤ 9223372036854775807) : OkD p (farL p d o at_ gone).d ∧ (farL p d o at_ gone).e = 0 := by
  unfold farL
  split
  · exact ⟨step_ok hd a0 (by omega), rfl⟩
  · split
    · refine ⟨?_, rfl⟩
      obtain ⟨⟨t1, t2, t3, t4, t5, t6, t7⟩, s, f, j, w⟩ := hd
      refine ⟨⟨?_, ?_, ?_, ?_, ?_, ?_, ?_⟩, ?_, ?_, ?_, ?_⟩ <;> dsimp only <;> omega
    · split
      · split
        · exact ⟨hd, rfl⟩
        · exact ⟨step_ok hd a0 (by omega), rfl⟩
      · exact ⟨step_ok hd a0 (by omega), rfl⟩
theorem freq_ok {p : Pm} (h : StdL p) {d : Dc} (hd : OkD p d) (f : Int) : OkD p { d with freq := holdL p f } := by
  have hf := hold_in h f
  have hm := h.maxrate
  obtain ⟨⟨t1, t2, t3, t4, t5, t6, t7⟩, s, f, j, w⟩ := hd
  generalize holdL p _ = x at *
  refine ⟨⟨?_, ?_, ?_, ?_, ?_, ?_, ?_⟩, ?_, ?_, ?_, ?_⟩ <;> dsimp only <;> omega
theorem wan_ok {p : Pm} {d : Dc} (hd : OkD p d) (a b : Int) : OkD p { d with wan := smoothL a b } := by
  have hs := smooth_typed a b
  obtain ⟨⟨t1, t2, t3, t4, t5, t6, t7⟩, s, f, j, w⟩ := hd
  generalize smoothL a b = x at *
  refine ⟨⟨?_, ?_, ?_, ?_, ?_, ?_, ?_⟩, ?_, ?_, ?_, ?_⟩ <;> dsimp only <;> omega
theorem near_ok {p : Pm} (h : StdL p) {d : Dc} {o at_ gone n : Int} (hd : OkD p d) (o0 : -9223372036854775808 ≤ o ∧ o ≤ 9223372036854775807) (a0 : -9223372036854775808 ≤ at_ ∧ at_ ≤ 9223372036854775807) : OkD p (nearL p d o at_ gone n).d ∧ (nearL p d o at_ gone n).e = 0 := by
  unfold nearL
  split
  · exact ⟨take_ok hd o0 a0 (by omega), rfl⟩
  · split
    · split
      · exact ⟨hd, rfl⟩
      · exact ⟨take_ok (freq_ok h hd _) o0 a0 (by omega), rfl⟩
    · split
      · exact ⟨take_ok (wan_ok (freq_ok h hd _) _ _) o0 a0 (by omega), rfl⟩
      · exact ⟨take_ok hd o0 a0 (by omega), rfl⟩
theorem upd_ok {p : Pm} (h : StdL p) {d : Dc} (hd : OkD p d) {o at_ n : Int} (o0 : -9223372036854775808 ≤ o ∧ o ≤ 9223372036854775807) (a0 : -9223372036854775808 ≤ at_ ∧ at_ ≤ 9223372036854775807) :
    OkD p (updL p d o at_ n).d ∧ ((d.st ≠ 0 ∧ (p.panic < o ∨ o < -p.panic)) ∧ updL p d o at_ n = ⟨d, 0, 0, 190⟩ ∨ ¬ (d.st ≠ 0 ∧ (p.panic < o ∨ o < -p.panic)) ∧ (updL p d o at_ n).e = 0) := by
  have hp := abs_far (T := p.panic) o0 (by rw [h.panic]; decide)
  have hs := hd.st
  unfold updL
  by_cases g : (1 ≤ d.st ∧ d.st ≤ 4) ∧ p.panic < absI o
  · rw [if_pos g]
    exact ⟨hd, .inl ⟨⟨by omega, hp.1 g.2⟩, rfl⟩⟩
  · rw [if_neg g]
    have g' : ¬ (d.st ≠ 0 ∧ (p.panic < o ∨ o < -p.panic)) := fun e => g ⟨by omega, hp.2 e.2⟩
    split
    · exact ⟨(far_ok hd a0).1, .inr ⟨g', (far_ok hd a0).2⟩⟩
    · exact ⟨(near_ok h hd o0 a0).1, .inr ⟨g', (near_ok h hd o0 a0).2⟩⟩
theorem start_ok {p : Pm} (h : StdL p) (f : Int) (known : Bool) : OkD p (startL p f known) := by
  have hf := hold_in h f
  have hm := h.maxrate
  unfold startL
  split
  · generalize holdL p f = x at *
    refine ⟨⟨?_, ?_, ?_, ?_, ?_, ?_, ?_⟩, ?_, ?_, ?_, ?_⟩ <;> dsimp only <;> omega
  · unfold Dc.zero
    refine ⟨⟨?_, ?_, ?_, ?_, ?_, ?_, ?_⟩, ?_, ?_, ?_, ?_⟩ <;> dsimp only <;> omega
end Go.Proofs.YtlidlmgmijndcaaGreat.W
