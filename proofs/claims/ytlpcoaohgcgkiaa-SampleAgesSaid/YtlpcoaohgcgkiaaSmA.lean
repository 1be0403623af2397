/- Layer 13 as numbers: samples. No program in it. -/
import Derived.Test.YtlpcoaohgcgkiaaRcA
import Derived.Test.YtlpcoaohgcgkiaaEraA
import Derived.Test.YtlpcoaohgcgkiaaHdZ
import Derived.Test.YtlpcoaohgcgkiaaFixD
namespace Go.Proofs.Ytlpcoaohgcgkiaa.W
open Go.RowKit
set_option linter.unusedVariables false
structure Smp where
  off : Int
  del : Int
  disp : Int
  at_ : Int
  total : Int
def Smp.val (s : Smp) : Value := .agg #[.int .i64 s.off, .int .i64 s.del, .int .i64 s.disp, .int .i64 s.at_, .int .i64 s.total]
structure Smp.Typed (s : Smp) : Prop where
  off : -9223372036854775808 ≤ s.off ∧ s.off ≤ 9223372036854775807
  del : -9223372036854775808 ≤ s.del ∧ s.del ≤ 9223372036854775807
  disp : -9223372036854775808 ≤ s.disp ∧ s.disp ≤ 9223372036854775807
  at_ : -9223372036854775808 ≤ s.at_ ∧ s.at_ ≤ 9223372036854775807
  total : -9223372036854775808 ≤ s.total ∧ s.total ≤ 9223372036854775807
def Smp.zero : Smp := ⟨0, 0, 0, 0, 0⟩
theorem Smp.val_inj {s t : Smp} (e : s.val = t.val) : s = t := by
  cases s; cases t
  simp [Smp.val] at e
  simp [e]
def powI (n : Int) : Int := shiftI 4294967296 n
/-- Four times: the error, and the sample. -/
def makeE (h : Hd) (back at_ : Int) : Int := if at_ < 0 ∨ 4611686018427387904 < at_ ∨ dfI back h.org < 0 ∨ dfI h.tx h.rcv < 0 then 1 else 0
def makeV (p : Pm) (own : Int) (h : Hd) (back at_ total : Int) : Smp :=
  ⟨meanI [dfI h.rcv h.org, dfI h.tx back], max (subI (dfI back h.org) (dfI h.tx h.rcv)) (powI own), addI (addI (powI h.prec) (powI own)) (mulI p.phi (dfI back h.org)), at_, total⟩
def makeS (p : Pm) (own : Int) (h : Hd) (back at_ total : Int) : Smp := if makeE h back at_ = 0 then makeV p own h back at_ total else Smp.zero
def ageI (p : Pm) (s : Smp) (at_ : Int) : Int := min (addI s.disp (mulI p.phi (max 0 (subI at_ s.at_)))) 68719476736
theorem subI_range (a b : Int) : -9223372036854775807 ≤ subI a b ∧ subI a b ≤ 9223372036854775807 := cutI_range _
theorem addI_range (a b : Int) : -9223372036854775807 ≤ addI a b ∧ addI a b ≤ 9223372036854775807 := cutI_range _
theorem mulI_range' (a b : Int) : -9223372036854775807 ≤ mulI a b ∧ mulI a b ≤ 9223372036854775807 := cutI_range _
theorem powI_range (n : Int) : 0 ≤ powI n ∧ powI n ≤ 9223372036854775807 := by
  unfold powI shiftI
  have e : ∀ x : Int, 0 ≤ x → 0 ≤ cutI x := fun x h => by unfold cutI; omega
  split
  · exact ⟨e _ (Int.ediv_nonneg (by decide) (Int.le_of_lt (Int.pow_pos (by decide)))), (cutI_range _).2⟩
  · exact ⟨e _ (Int.mul_nonneg (by decide) (Int.le_of_lt (Int.pow_pos (by decide)))), (cutI_range _).2⟩
theorem age_range (p : Pm) (s : Smp) (at_ : Int) : -9223372036854775807 ≤ ageI p s at_ ∧ ageI p s at_ ≤ 68719476736 := by
  have := addI_range s.disp (mulI p.phi (max 0 (subI at_ s.at_)))
  unfold ageI
  omega
theorem mulI_up {f a b : Int} (hf : 0 ≤ f) (h : a ≤ b) : mulI f a ≤ mulI f b := by
  unfold mulI
  exact cutI_mono (Int.ediv_le_ediv (by decide) (Int.mul_le_mul_of_nonneg_left h hf))
theorem mulI_nought (f : Int) : mulI f 0 = 0 := by
  unfold mulI
  rw [Int.mul_zero]
  rfl
/-- A sample's dispersion never gets less. -/
theorem age_mono {p : Pm} (hf : 0 ≤ p.phi) (s : Smp) {a b : Int} (h : a ≤ b) : ageI p s a ≤ ageI p s b := by
  have h1 : subI a s.at_ ≤ subI b s.at_ := cutI_mono (by omega)
  have h2 := mulI_up (f := p.phi) hf (show max 0 (subI a s.at_) ≤ max 0 (subI b s.at_) by omega)
  have h3 : addI s.disp (mulI p.phi (max 0 (subI a s.at_))) ≤ addI s.disp (mulI p.phi (max 0 (subI b s.at_))) := cutI_mono (by omega)
  unfold ageI
  omega
theorem age_own (p : Pm) (s : Smp) (t : s.Typed) : ageI p s s.at_ = min (max s.disp (-9223372036854775807)) 68719476736 := by
  have h := t.disp
  unfold ageI
  have e : subI s.at_ s.at_ = 0 := by unfold subI; rw [Int.sub_self]; rfl
  rw [e, show max (0 : Int) 0 = 0 from rfl, mulI_nought]
  have : addI s.disp 0 = max s.disp (-9223372036854775807) := by
    unfold addI
    rw [Int.add_zero]
    exact cutI_max _ h.2
  rw [this]
theorem std_phi : (chkP stdC).phi = 64424 := by
  have hn : ofV 4534972062662729065 = 64424 := by
    obtain ⟨k, hk⟩ : ∃ k, 1005 = k := ⟨_, rfl⟩
    rw [ofV_big (k := k) (c := 8854437155380585) (d := 69) (by omega) (by decide) (by decide) (by decide) (by omega)]
    decide
  unfold chkP
  rw [std_none, if_pos rfl]
  have e : ∀ c : Cf, (setP c).phi = ofV c.phi := fun c => by
    unfold setP
    simp only []
  rw [e]
  exact hn
end Go.Proofs.Ytlpcoaohgcgkiaa.W
