/- Layer 13 as numbers: samples. No program in it. -/
import Derived.Test.YtlpcoaohgcgkiaaGreatRcA
import Derived.Test.YtlpcoaohgcgkiaaGreatEraA
import Derived.Test.YtlpcoaohgcgkiaaGreatHdZ
import Derived.Test.YtlpcoaohgcgkiaaGreatFixD
namespace Go.Proofs.YtlpcoaohgcgkiaaGreat.W
open Go.RowKit
set_option linter.unusedVariables false
structure Smp where
  off : Int
  del : Int
  disp : Int
  at_ : Int
  total : Int
def Smp.val (s : Smp) : Value := .agg #[.int .i64 s.off, .int .i64 s.del, .int .i64 s.disp, .int .i64 s.at_, .int .i64 s.total]
structure Smp.Typed (s : Smp) : Prop where
  off : -9223372036854775808 ≤ s.off ∧ s.off ≤ 9223372036854775807
  del : -9223372036854775808 ≤ s.del ∧ s.del ≤ 9223372036854775807
  disp : -9223372036854775808 ≤ s.disp ∧ s.disp ≤ 9223372036854775807
  at_ : -9223372036854775808 ≤ s.at_ ∧ s.at_ ≤ 9223372036854775807
  total : -9223372036854775808 ≤ s.total ∧ s.total ≤ 9223372036854775807
def Smp.zero : Smp := ⟨0, 0, 0, 0, 0⟩
theorem Smp.val_inj {s t : Smp} (e : s.val = t.val) : s = t := by
  cases s; cases t
  simp [Smp.val] at e
  simp [e]
def powI (n : Int) : Int := shiftI 4294967296 n
/-- Four times: the error, and the sample. -/
def makeE (h : Hd) (back at_ : Int) : Int := if at_ < 0 ∨ 4611686018427387904 < at_ ∨ dfI back h.org < 0 ∨ dfI h.tx h.rcv < 0 then 1 else 0
def makeV (p : Pm) (own : Int) (h : Hd) (back at_ total : Int) : Smp :=
  ⟨meanI [dfI h.rcv h.org, dfI h.tx back], max (subI (dfI back h.org) (dfI h.tx h.rcv)) (powI own), addI (addI (powI h.prec) (powI own)) (mulI p.phi (dfI back h.org)), at_, total⟩
def makeS (p : Pm) (own : Int) (h : Hd) (back at_ total : Int) : Smp := if makeE h back at_ = 0 then makeV p own h back at_ total else Smp.zero
def ageI (p : Pm) (s : Smp) (at_ : Int) : Int := min (addI s.disp (mulI p.phi (max 0 (subI at_ s.at_)))) 68719476736
def moveI (s : Smp) (total : Int) : Int := subI s.off (subI total s.total)
def halfI (n : Int) : Int := subI 0 (shiftI (subI 0 n) (-1))
def spanL (p : Pm) (s : Smp) (at_ total : Int) : Int := subI (subI (moveI s total) (halfI s.del)) (ageI p s at_)
def spanH (p : Pm) (s : Smp) (at_ total : Int) : Int := addI (addI (moveI s total) (halfI s.del)) (ageI p s at_)
theorem subI_range (a b : Int) : -9223372036854775807 ≤ subI a b ∧ subI a b ≤ 9223372036854775807 := cutI_range _
theorem addI_range (a b : Int) : -9223372036854775807 ≤ addI a b ∧ addI a b ≤ 9223372036854775807 := cutI_range _
theorem mulI_range' (a b : Int) : -9223372036854775807 ≤ mulI a b ∧ mulI a b ≤ 9223372036854775807 := cutI_range _
theorem powI_range (n : Int) : 0 ≤ powI n ∧ powI n ≤ 9223372036854775807 := by
  unfold powI shiftI
  have e : ∀ x : Int, 0 ≤ x → 0 ≤ cutI x := fun x h => by unfold cutI; omega
  split
  · exact ⟨e _ (Int.ediv_nonneg (by decide) (Int.le_of_lt (Int.pow_pos (by decide)))), (cutI_range _).2⟩
  · exact ⟨e _ (Int.mul_nonneg (by decide) (Int.le_of_lt (Int.pow_pos (by decide)))), (cutI_range _).2⟩
theorem age_range (p : Pm) (s : Smp) (at_ : Int) : -9223372036854775807 ≤ ageI p s at_ ∧ ageI p s at_ ≤ 68719476736 := by
  have := addI_range s.disp (mulI p.phi (max 0 (subI at_ s.at_)))
  unfold ageI
  omega
theorem make_typed (p : Pm) (own : Int) (h : Hd) (back at_ total : Int) (ha : -9223372036854775808 ≤ at_ ∧ at_ ≤ 9223372036854775807) (ht : -9223372036854775808 ≤ total ∧ total ≤ 9223372036854775807) : (makeS p own h back at_ total).Typed := by
  unfold makeS
  split
  · have h1 := meanI_range [dfI h.rcv h.org, dfI h.tx back]
    have h2 := subI_range (dfI back h.org) (dfI h.tx h.rcv)
    have h3 := powI_range own
    have h4 := addI_range (addI (powI h.prec) (powI own)) (mulI p.phi (dfI back h.org))
    refine ⟨?_, ?_, ?_, ha, ht⟩ <;> (unfold makeV; dsimp only; omega)
  · exact ⟨by decide, by decide, by decide, by decide, by decide⟩
/-- Half, rounded up. -/
theorem half_is (n : Int) (h : -9223372036854775807 ≤ n ∧ n ≤ 9223372036854775807) : halfI n = (n + 1) / 2 := by
  unfold halfI subI
  have e : shiftI (cutI (0 - n)) (-1) = cutI (cutI (0 - n) / 2) := by
    unfold shiftI
    rw [if_pos (by decide)]
    rfl
  rw [e, cutI_in (0 - n) (by omega) (by omega), cutI_in ((0 - n) / 2) (by omega) (by omega), cutI_in _ (by omega) (by omega)]
  omega
theorem mulI_up {f a b : Int} (hf : 0 ≤ f) (h : a ≤ b) : mulI f a ≤ mulI f b := by
  unfold mulI
  exact cutI_mono (Int.ediv_le_ediv (by decide) (Int.mul_le_mul_of_nonneg_left h hf))
theorem mulI_nought (f : Int) : mulI f 0 = 0 := by
  unfold mulI
  rw [Int.mul_zero]
  rfl
theorem mulI_pos0 {f a : Int} (hf : 0 ≤ f) (h : 0 ≤ a) : 0 ≤ mulI f a := by
  have := mulI_up (f := f) hf h
  rwa [mulI_nought] at this
/-- A sample's dispersion never gets less. -/
theorem age_mono {p : Pm} (hf : 0 ≤ p.phi) (s : Smp) {a b : Int} (h : a ≤ b) : ageI p s a ≤ ageI p s b := by
  have h1 : subI a s.at_ ≤ subI b s.at_ := cutI_mono (by omega)
  have h2 := mulI_up (f := p.phi) hf (show max 0 (subI a s.at_) ≤ max 0 (subI b s.at_) by omega)
  have h3 : addI s.disp (mulI p.phi (max 0 (subI a s.at_))) ≤ addI s.disp (mulI p.phi (max 0 (subI b s.at_))) := cutI_mono (by omega)
  unfold ageI
  omega
theorem age_own (p : Pm) (s : Smp) (t : s.Typed) : ageI p s s.at_ = min (max s.disp (-9223372036854775807)) 68719476736 := by
  have h := t.disp
  unfold ageI
  have e : subI s.at_ s.at_ = 0 := by unfold subI; rw [Int.sub_self]; rfl
  rw [e, show max (0 : Int) 0 = 0 from rfl, mulI_nought]
  have : addI s.disp 0 = max s.disp (-9223372036854775807) := by
    unfold addI
    rw [Int.add_zero]
    exact cutI_max _ h.2
  rw [this]
theorem std_phi : (chkP stdC).phi = 64424 := by
  have hn : ofV 4534972062662729065 = 64424 := by
    obtain ⟨k, hk⟩ : ∃ k, 1005 = k := ⟨_, rfl⟩
    rw [ofV_big (k := k) (c := 8854437155380585) (d := 69) (by omega) (by decide) (by decide) (by decide) (by omega)]
    decide
  unfold chkP
  rw [std_none, if_pos rfl]
  have e : ∀ c : Cf, (setP c).phi = ofV c.phi := fun c => by
    unfold setP
    simp only []
  rw [e]
  exact hn
theorem subI_in (a b : Int) (h : -9223372036854775807 ≤ a - b ∧ a - b ≤ 9223372036854775807) : subI a b = a - b := cutI_in _ h.1 h.2
theorem addI_in (a b : Int) (h : -9223372036854775807 ≤ a + b ∧ a + b ≤ 9223372036854775807) : addI a b = a + b := cutI_in _ h.1 h.2
/-- What the law says of a sample of small numbers. -/
theorem moves_true {p : Pm} (hp : p.phi = 64424) {o d x a l T : Int} (ho : 0 ≤ o ∧ o < 4294967296) (hd : 0 ≤ d ∧ d < 4294967296) (hx : 0 ≤ x ∧ x < 4294967296) (ha : 0 ≤ a ∧ a < 4294967296) (hl : 0 ≤ l ∧ l < 4294967296) (hT : -2147483648 ≤ T ∧ T ≤ 2147483647) :
    moveI ⟨o, d, x, a, 0⟩ T = o - T ∧ spanL p ⟨o, d, x, a, 0⟩ a T = spanL p ⟨o, d, x, a, 0⟩ a 0 - T ∧ spanH p ⟨o, d, x, a, 0⟩ a T = spanH p ⟨o, d, x, a, 0⟩ a 0 - T ∧
    spanL p ⟨o, d, x, a, 0⟩ (a + l * 1000) 0 ≤ spanL p ⟨o, d, x, a, 0⟩ a 0 ∧ spanH p ⟨o, d, x, a, 0⟩ a 0 ≤ spanH p ⟨o, d, x, a, 0⟩ (a + l * 1000) 0 ∧ spanL p ⟨o, d, x, a, 0⟩ a 0 ≤ o ∧ o ≤ spanH p ⟨o, d, x, a, 0⟩ a 0 ∧
    ageI p ⟨o, d, x, a, 0⟩ 4611686018427387904 = 68719476736 ∧ -1099511627776 ≤ spanL p ⟨o, d, x, a, 0⟩ a 0 ∧ spanH p ⟨o, d, x, a, 0⟩ a 0 ≤ 1099511627776 := by
  have m0 : ∀ t : Int, -2147483648 ≤ t ∧ t ≤ 2147483647 → moveI ⟨o, d, x, a, 0⟩ t = o - t := by
    intro t ht
    unfold moveI
    dsimp only
    rw [subI_in t 0 (by omega), subI_in _ _ (by omega)]
    omega
  have hh := half_is d (by omega)
  have ag : ∀ g : Int, a ≤ g ∧ g ≤ 4611686018427387904 → ageI p ⟨o, d, x, a, 0⟩ g = min (x + 64424 * (g - a) / 4294967296) 68719476736 := by
    intro g hg
    unfold ageI
    dsimp only
    rw [subI_in g a (by omega), show max 0 (g - a) = g - a by omega, hp]
    have e : mulI 64424 (g - a) = 64424 * (g - a) / 4294967296 := by
      unfold mulI
      exact cutI_in _ (by omega) (by omega)
    rw [e, addI_in _ _ (by omega)]
  have a1 := ag a (by omega)
  have a2 := ag (a + l * 1000) (by omega)
  have a3 := ag 4611686018427387904 (by omega)
  rw [show a - a = 0 by omega] at a1
  have a1' : ageI p ⟨o, d, x, a, 0⟩ a = x := by rw [a1]; omega
  have a2' : x ≤ ageI p ⟨o, d, x, a, 0⟩ (a + l * 1000) ∧ ageI p ⟨o, d, x, a, 0⟩ (a + l * 1000) ≤ 68719476736 := by rw [a2]; omega
  have a3' : ageI p ⟨o, d, x, a, 0⟩ 4611686018427387904 = 68719476736 := by rw [a3]; omega
  have sL : ∀ g t : Int, -2147483648 ≤ t ∧ t ≤ 2147483647 → 0 ≤ ageI p ⟨o, d, x, a, 0⟩ g → spanL p ⟨o, d, x, a, 0⟩ g t = o - t - (d + 1) / 2 - ageI p ⟨o, d, x, a, 0⟩ g := by
    intro g t ht hg
    have hr := (age_range p ⟨o, d, x, a, 0⟩ g).2
    unfold spanL
    rw [m0 t ht]
    dsimp only
    rw [hh, subI_in (o - t) ((d + 1) / 2) (by omega), subI_in _ _ (by omega)]
  have sH : ∀ g t : Int, -2147483648 ≤ t ∧ t ≤ 2147483647 → 0 ≤ ageI p ⟨o, d, x, a, 0⟩ g → spanH p ⟨o, d, x, a, 0⟩ g t = o - t + (d + 1) / 2 + ageI p ⟨o, d, x, a, 0⟩ g := by
    intro g t ht hg
    have hr := (age_range p ⟨o, d, x, a, 0⟩ g).2
    unfold spanH
    rw [m0 t ht]
    dsimp only
    rw [hh, addI_in (o - t) ((d + 1) / 2) (by omega), addI_in _ _ (by omega)]
  rw [sL a T hT (by omega), sL a 0 (by omega) (by omega), sH a T hT (by omega), sH a 0 (by omega) (by omega), sL (a + l * 1000) 0 (by omega) (by omega), sH (a + l * 1000) 0 (by omega) (by omega), a1']
  refine ⟨m0 T hT, ?_, ?_, ?_, ?_, ?_, ?_, a3', ?_, ?_⟩ <;> omega
end Go.Proofs.YtlpcoaohgcgkiaaGreat.W
