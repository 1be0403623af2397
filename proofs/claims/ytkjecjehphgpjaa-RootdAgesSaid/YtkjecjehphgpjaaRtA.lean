/- Layer 15 as numbers: how far a server is from the root of time. No program in it. -/
import Derived.Test.YtkjecjehphgpjaaFrA
import Derived.Test.YtkjecjehphgpjaaSmA
namespace Go.Proofs.Ytkjecjehphgpjaa.W
open Go.RowKit
set_option linter.unusedVariables false
structure Sv where
  leap : Int
  str : Int
  ref : Int
  del : Int
  disp : Int
  t : Told
  reg : Int
def Sv.val (s : Sv) : Value := .agg #[.int .i64 s.leap, .int .i64 s.str, .int .u32 s.ref, .int .i64 s.del, .int .i64 s.disp, .int .i64 s.t.off, .int .i64 s.t.del, .int .i64 s.t.disp, .int .i64 s.t.jit, .int .i64 s.t.at_, .int .u8 s.reg]
structure Sv.Typed (s : Sv) : Prop where
  leap : -9223372036854775808 ≤ s.leap ∧ s.leap ≤ 9223372036854775807
  str : -9223372036854775808 ≤ s.str ∧ s.str ≤ 9223372036854775807
  ref : 0 ≤ s.ref ∧ s.ref ≤ 4294967295
  del : -9223372036854775808 ≤ s.del ∧ s.del ≤ 9223372036854775807
  disp : -9223372036854775808 ≤ s.disp ∧ s.disp ≤ 9223372036854775807
  t : s.t.Typed
  reg : 0 ≤ s.reg ∧ s.reg ≤ 255
/-- How far it is, as it was told; by time. -/
def dist0 (s : Sv) : Int := addI (addI (shiftI (max 21474836 (addI s.del s.t.del)) (-1)) s.disp) s.t.disp
def distI (p : Pm) (s : Sv) (at_ : Int) : Int := addI (addI (dist0 s) (mulI p.phi (max 0 (subI at_ s.t.at_)))) s.t.jit
def lowI (p : Pm) (s : Sv) (at_ : Int) : Int := subI s.t.off (distI p s at_)
def highI (p : Pm) (s : Sv) (at_ : Int) : Int := addI s.t.off (distI p s at_)
def limI (p : Pm) (poll : Int) : Int := addI p.maxdist (mulI p.phi (powI poll))
def fitE (p : Pm) (s : Sv) (own poll at_ : Int) : Int :=
  if s.leap = 3 ∨ s.str < 1 ∨ 15 < s.str then 123 else if limI p poll ≤ distI p s at_ then 124 else if 1 < s.str ∧ s.ref = own then 4 else if s.reg = 0 then 3 else 0
def timesI (m : Int) : Nat → Int
  | 0 => 0
  | n + 1 => addI (timesI m n) m
def metI (p : Pm) (s : Sv) (at_ : Int) : Int := addI (timesI p.maxdist (max 0 (min s.str 16)).toNat) (distI p s at_)
theorem dist_range (p : Pm) (s : Sv) (at_ : Int) : -9223372036854775807 ≤ distI p s at_ ∧ distI p s at_ ≤ 9223372036854775807 := addI_range _ _
theorem addI_up {a b : Int} (c : Int) (h : a ≤ b) : addI a c ≤ addI b c := cutI_mono (by omega)
theorem dist_mono {p : Pm} (hf : 0 ≤ p.phi) (s : Sv) {a b : Int} (h : a ≤ b) : distI p s a ≤ distI p s b := by
  have h1 : subI a s.t.at_ ≤ subI b s.t.at_ := cutI_mono (by omega)
  have h2 := mulI_up (f := p.phi) hf (show max 0 (subI a s.t.at_) ≤ max 0 (subI b s.t.at_) by omega)
  unfold distI
  refine addI_up _ ?_
  exact cutI_mono (by omega)
theorem span_mono {p : Pm} (hf : 0 ≤ p.phi) (s : Sv) {a b : Int} (h : a ≤ b) : lowI p s b ≤ lowI p s a ∧ highI p s a ≤ highI p s b := by
  have := dist_mono hf s h
  unfold lowI highI
  exact ⟨cutI_mono (by omega), cutI_mono (by omega)⟩
theorem add_pos {a b c : Int} (h : c ≤ a) (hb : 0 ≤ b) (hc : c ≤ 9223372036854775807) (h0 : -9223372036854775807 ≤ c) : c ≤ addI a b := by
  unfold addI cutI
  omega
/-- Its offset is in its span. -/
theorem dist_in {p : Pm} (hf : 0 ≤ p.phi) (s : Sv) (ts : s.Typed) (h1 : 0 ≤ s.disp) (h2 : 0 ≤ s.t.disp) (h3 : 0 ≤ s.t.jit) (at_ : Int) :
    10737418 ≤ distI p s at_ ∧ lowI p s at_ ≤ max s.t.off (-9223372036854775807) ∧ max s.t.off (-9223372036854775807) ≤ highI p s at_ := by
  have k0 : 10737418 ≤ shiftI (max 21474836 (addI s.del s.t.del)) (-1) := by
    have e : ∀ x : Int, shiftI x (-1) = cutI (x / 2) := fun x => by
      unfold shiftI
      rw [if_pos (by decide)]
      rfl
    rw [e]
    have := addI_range s.del s.t.del
    unfold cutI
    omega
  have k1 : 10737418 ≤ dist0 s := add_pos (add_pos k0 h1 (by decide) (by decide)) h2 (by decide) (by decide)
  have k2 := mulI_pos0 (f := p.phi) hf (show 0 ≤ max 0 (subI at_ s.t.at_) by omega)
  have k3 : 10737418 ≤ distI p s at_ := add_pos (add_pos k1 k2 (by decide) (by decide)) h3 (by decide) (by decide)
  have ho := ts.t.off
  refine ⟨k3, ?_, ?_⟩
  · unfold lowI subI cutI
    omega
  · unfold highI addI cutI
    omega
theorem fit_cases (p : Pm) (s : Sv) (own poll at_ : Int) : fitE p s own poll at_ = 0 ∨ fitE p s own poll at_ = 123 ∨ fitE p s own poll at_ = 124 ∨ fitE p s own poll at_ = 4 ∨ fitE p s own poll at_ = 3 := by
  unfold fitE
  repeat' split
  all_goals omega
/-- What is fit. -/
theorem fit_ok {p : Pm} {s : Sv} {own poll at_ : Int} (h : fitE p s own poll at_ = 0) :
    1 ≤ s.str ∧ s.str ≤ 15 ∧ distI p s at_ < limI p poll ∧ fitE p ⟨s.leap, s.str, s.ref, s.del, s.disp, s.t, 0⟩ own poll at_ = 3 ∧ fitE p ⟨3, s.str, s.ref, s.del, s.disp, s.t, 0⟩ own poll at_ = 123 := by
  unfold fitE at h
  by_cases h1 : s.leap = 3 ∨ s.str < 1 ∨ 15 < s.str
  · rw [if_pos h1] at h
    cases h
  · rw [if_neg h1] at h
    by_cases h2 : limI p poll ≤ distI p s at_
    · rw [if_pos h2] at h
      cases h
    · rw [if_neg h2] at h
      by_cases h3 : 1 < s.str ∧ s.ref = own
      · rw [if_pos h3] at h
        cases h
      · refine ⟨by omega, by omega, by omega, ?_, ?_⟩
        · unfold fitE
          rw [if_neg h1, if_neg (show ¬ limI p poll ≤ distI p ⟨s.leap, s.str, s.ref, s.del, s.disp, s.t, 0⟩ at_ from h2), if_neg h3, if_pos rfl]
        · unfold fitE
          rw [if_pos (.inl rfl)]
theorem times_range (m : Int) : ∀ n, -9223372036854775807 ≤ timesI m n ∧ timesI m n ≤ 9223372036854775807
  | 0 => by unfold timesI; decide
  | n + 1 => addI_range _ _
theorem times_next {m : Int} (h : 0 ≤ m) (n : Nat) : timesI m n ≤ timesI m (n + 1) := by
  have := times_range m n
  show _ ≤ addI (timesI m n) m
  unfold addI cutI
  omega
theorem times_mono {m : Int} (h : 0 ≤ m) {a b : Nat} (hab : a ≤ b) : timesI m a ≤ timesI m b := by
  induction b with
  | zero =>
    obtain rfl : a = 0 := by omega
    exact Int.le_refl _
  | succ b ih =>
    by_cases e : a = b + 1
    · subst e
      exact Int.le_refl _
    · exact Int.le_trans (ih (by omega)) (times_next h b)
/-- A better stratum, as far away, is a lesser metric. -/
theorem met_mono {p : Pm} (h : 0 ≤ p.maxdist) {s u : Sv} (at_ : Int) (hs : s.str ≤ u.str) (hd : distI p u at_ = distI p s at_) : metI p s at_ ≤ metI p u at_ := by
  unfold metI
  rw [hd]
  exact addI_up _ (times_mono h (by omega))
theorem span_wide (p : Pm) (s : Sv) (at_ : Int) (h1 : -2305843009213693952 < distI p s at_) (h2 : distI p s at_ < 2305843009213693952) (h3 : -2305843009213693952 < s.t.off) (h4 : s.t.off < 2305843009213693952) :
    highI p s at_ - lowI p s at_ = 2 * distI p s at_ ∧ lowI p s at_ + distI p s at_ = s.t.off := by
  unfold highI lowI
  rw [subI_in _ _ (by omega), addI_in _ _ (by omega)]
  omega
theorem lim_std {p : Pm} (hf : p.phi = 64424) (hd : p.maxdist = 6442450944) {n : Int} (h0 : 0 ≤ n) (h1 : n < 18) : limI p n ≤ 21474836480 := by
  unfold limI
  rw [hf, hd]
  have h : n = 0 ∨ n = 1 ∨ n = 2 ∨ n = 3 ∨ n = 4 ∨ n = 5 ∨ n = 6 ∨ n = 7 ∨ n = 8 ∨ n = 9 ∨ n = 10 ∨ n = 11 ∨ n = 12 ∨ n = 13 ∨ n = 14 ∨ n = 15 ∨ n = 16 ∨ n = 17 := by omega
  rcases h with rfl | rfl | rfl | rfl | rfl | rfl | rfl | rfl | rfl | rfl | rfl | rfl | rfl | rfl | rfl | rfl | rfl | rfl <;> decide
end Go.Proofs.Ytkjecjehphgpjaa.W
