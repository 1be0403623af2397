/- Layer 13 as numbers: what four times tell of a server that stays as far ahead as it is. No program in it. -/
import Derived.Test.YtlpcoaohgcgkiaaGreatSmA
namespace Go.Proofs.YtlpcoaohgcgkiaaGreat.W
open Go.RowKit
set_option linter.unusedVariables false
theorem df_small (a b d : Int) (h : -4611686018427387904 ≤ d ∧ d ≤ 4611686018427387904) (e : (a - b) % 18446744073709551616 = d % 18446744073709551616) : dfI a b = d := by
  unfold dfI
  rw [e]
  omega
theorem four_times {A o t b s : Int} (hA : 0 ≤ A ∧ A < 18446744073709551616) (ho : -2147483648 ≤ o ∧ o ≤ 2147483647) (ht : 0 ≤ t ∧ t < 4294967296) (hb : 0 ≤ b ∧ b < 4294967296) (hs : 0 ≤ s ∧ s < 4294967296)
    {R X C : Int} (hR : R = (A + o + t) % 18446744073709551616) (hX : X = (R + s) % 18446744073709551616) (hC : C = (X - o + b) % 18446744073709551616) :
    dfI C A = t + s + b ∧ dfI X R = s ∧ dfI R A = o + t ∧ dfI X C = o - b := by
  have m1 : (C - A) % 18446744073709551616 = (t + s + b) % 18446744073709551616 := by
    rw [hC, hX, hR, Int.emod_sub_emod]
    rw [show (A + o + t) % 18446744073709551616 + s = (A + o + t) % 18446744073709551616 + s from rfl, Int.emod_add_emod, show (A + o + t + s) % 18446744073709551616 - o + b - A = (A + o + t + s) % 18446744073709551616 + (b - o - A) by omega, Int.emod_add_emod]
    congr 1
    omega
  have m2 : (X - R) % 18446744073709551616 = s % 18446744073709551616 := by
    rw [hX, Int.emod_sub_emod]
    congr 1
    omega
  have m3 : (R - A) % 18446744073709551616 = (o + t) % 18446744073709551616 := by
    rw [hR, Int.emod_sub_emod]
    congr 1
    omega
  have m4 : (X - C) % 18446744073709551616 = (o - b) % 18446744073709551616 := by
    rw [hC, Int.sub_emod_emod]
    congr 1
    omega
  clear hR hX hC
  exact ⟨df_small _ _ _ (by omega) m1, df_small _ _ _ (by omega) m2, df_small _ _ _ (by omega) m3, df_small _ _ _ (by omega) m4⟩
theorem powI_small {n : Int} (h : n ≤ 9) : powI n ≤ 2199023255552 := by
  unfold powI shiftI
  split
  · have : (4294967296 : Int) / 2 ^ (min (-n) 1000).toNat ≤ 4294967296 := Int.ediv_le_self _ (by decide)
    unfold cutI
    omega
  · have hn : n = 0 ∨ n = 1 ∨ n = 2 ∨ n = 3 ∨ n = 4 ∨ n = 5 ∨ n = 6 ∨ n = 7 ∨ n = 8 ∨ n = 9 := by omega
    rcases hn with rfl | rfl | rfl | rfl | rfl | rfl | rfl | rfl | rfl | rfl <;> decide
theorem last_times {o t b P D : Int} (ho : -2147483648 ≤ o ∧ o ≤ 2147483647) (ht : 0 ≤ t ∧ t < 4294967296) (hb : 0 ≤ b ∧ b < 4294967296) (P0 : 0 ≤ P) (P1 : P ≤ 2199023255552) (D0 : 0 ≤ D) :
    o - (max (t + b) P / 2 + 1) ≤ (2 * o + t - b) / 2 ∧ (2 * o + t - b) / 2 ≤ o + (max (t + b) P / 2 + 1) ∧ t + b ≤ max (t + b) P ∧ max (t + b) P ≤ 8796093022208 ∧ -8589934592 ≤ (2 * o + t - b) / 2 ∧ (2 * o + t - b) / 2 ≤ 8589934592 ∧
    (2 * o + t - b) / 2 - (max (t + b) P + 1) / 2 - min D 68719476736 ≤ o ∧ o ≤ (2 * o + t - b) / 2 + (max (t + b) P + 1) / 2 + min D 68719476736 := by
  have hM : t + b ≤ max (t + b) P ∧ max (t + b) P ≤ 8796093022208 := by omega
  generalize max (t + b) P = M at *
  have hm : 0 ≤ min D 68719476736 := by omega
  generalize min D 68719476736 = m at *
  refine ⟨?_, ?_, hM.1, hM.2, ?_, ?_, ?_, ?_⟩ <;> omega
theorem make_typed_of {a b : Smp} (h : a = b) (t : a.Typed) : b.Typed := h ▸ t
/-- What four times tell of a server that is o ahead. -/
theorem true_times {p : Pm} (tp : p.Typed) (hp : p.phi = 64424) {A o t b s own : Int} (hA : 0 ≤ A ∧ A < 18446744073709551616) (ho : -2147483648 ≤ o ∧ o ≤ 2147483647) (ht : 0 ≤ t ∧ t < 4294967296) (hb : 0 ≤ b ∧ b < 4294967296) (hs : 0 ≤ s ∧ s < 4294967296) (hw : own ≤ 9)
    {R X C : Int} (hR : R = (A + o + t) % 18446744073709551616) (hX : X = (R + s) % 18446744073709551616) (hC : C = (X - o + b) % 18446744073709551616) :
    makeE ⟨0, 0, 0, 0, 0, 0, 0, 0, 0, 0, A, R, X⟩ C 5 = 0 ∧ ∃ S : Smp, makeS p own ⟨0, 0, 0, 0, 0, 0, 0, 0, 0, 0, A, R, X⟩ C 5 0 = S ∧ S.Typed ∧ o - (S.del / 2 + 1) ≤ S.off ∧ S.off ≤ o + (S.del / 2 + 1) ∧ t + b ≤ S.del ∧ S.del ≤ 8796093022208 ∧ -8589934592 ≤ S.off ∧ S.off ≤ 8589934592 ∧ spanL p S 5 0 ≤ o ∧ o ≤ spanH p S 5 0 := by
  obtain ⟨d1, d2, d3, d4⟩ := four_times hA ho ht hb hs hR hX hC
  clear hR hX hC hA
  have eE : makeE ⟨0, 0, 0, 0, 0, 0, 0, 0, 0, 0, A, R, X⟩ C 5 = 0 := by
    unfold makeE
    dsimp only
    rw [d1, d2, if_neg (by omega)]
  have hm : meanI [o + t, o - b] = (2 * o + t - b) / 2 := by
    unfold meanI
    rw [if_neg (by simp)]
    show cutI ((o + t + (o - b + 0)) / 2) = _
    rw [cutI_in _ (by omega) (by omega)]
    omega
  have P0 := powI_range own
  have P1 := powI_small hw
  have M0 : 0 ≤ mulI 64424 (t + s + b) := mulI_pos0 (by decide) (by omega)
  have D0 : 0 ≤ addI (addI (powI 0) (powI own)) (mulI 64424 (t + s + b)) := by
    have e0 : powI 0 = 4294967296 := by decide
    rw [e0]
    have a1 : addI 4294967296 (powI own) = 4294967296 + powI own := addI_in _ _ (by omega)
    rw [a1]
    unfold addI cutI
    omega
  have D1 := (addI_range (addI (powI 0) (powI own)) (mulI 64424 (t + s + b))).2
  have hv : makeS p own ⟨0, 0, 0, 0, 0, 0, 0, 0, 0, 0, A, R, X⟩ C 5 0 = ⟨(2 * o + t - b) / 2, max (t + b) (powI own), addI (addI (powI 0) (powI own)) (mulI 64424 (t + s + b)), 5, 0⟩ := by
    unfold makeS
    rw [eE, if_pos rfl]
    unfold makeV
    dsimp only
    rw [d1, d2, d3, d4, hm, hp, subI_in _ _ (by omega), show t + s + b - s = t + b by omega]
  refine ⟨eE, _, hv, make_typed_of hv (make_typed p own _ C 5 0 (by decide) (by decide)), ?_⟩
  generalize addI (addI (powI 0) (powI own)) (mulI 64424 (t + s + b)) = D at *
  generalize powI own = P at *
  have ag : ageI p ⟨(2 * o + t - b) / 2, max (t + b) P, D, 5, 0⟩ 5 = min D 68719476736 := by
    unfold ageI
    dsimp only
    rw [subI_in 5 5 (by decide), show max (0 : Int) (5 - 5) = 0 from rfl, mulI_nought, addI_in D 0 (by omega), Int.add_zero]
  have mv : moveI ⟨(2 * o + t - b) / 2, max (t + b) P, D, 5, 0⟩ 0 = (2 * o + t - b) / 2 := by
    unfold moveI
    dsimp only
    rw [subI_in 0 0 (by decide), subI_in _ _ (by omega)]
    omega
  have hh := half_is (max (t + b) P) (by omega)
  have sl : spanL p ⟨(2 * o + t - b) / 2, max (t + b) P, D, 5, 0⟩ 5 0 = (2 * o + t - b) / 2 - (max (t + b) P + 1) / 2 - min D 68719476736 := by
    unfold spanL
    rw [mv, ag]
    dsimp only
    rw [hh, subI_in ((2 * o + t - b) / 2) ((max (t + b) P + 1) / 2) (by omega), subI_in _ _ (by omega)]
  have sh : spanH p ⟨(2 * o + t - b) / 2, max (t + b) P, D, 5, 0⟩ 5 0 = (2 * o + t - b) / 2 + (max (t + b) P + 1) / 2 + min D 68719476736 := by
    unfold spanH
    rw [mv, ag]
    dsimp only
    rw [hh, addI_in ((2 * o + t - b) / 2) ((max (t + b) P + 1) / 2) (by omega), addI_in _ _ (by omega)]
  rw [sl, sh]
  dsimp only
  clear sl sh hh mv ag hv eE d1 d2 d3 d4 hm hp tp hw hs M0 D1
  exact last_times ho ht hb P0.1 P1 D0
end Go.Proofs.YtlpcoaohgcgkiaaGreat.W
