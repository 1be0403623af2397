/- Layer 9: two saves from nothing, and a byte that is another one. No program in it. -/
import Derived.Test.YtcfdggeoecdnnaaDrK
import Derived.Test.YtcfdggeoecdnnaaHdI
import Derived.Test.YtcfdggeoecdnnaaHdJ
namespace Go.Proofs.Ytcfdggeoecdnnaa.W
open Go.RowKit
set_option linter.unusedVariables false
def turned9 (l : List UInt8) (j : Nat) (x : UInt8) : List UInt8 := cut l 0 j ++ (x :: l.drop (j + 1))
theorem turned9_set {l : List UInt8} {j : Nat} (x : UInt8) (h : j < l.length) : turned9 l j x = l.set j x := by
  have e : cut l 0 j = l.take j := by unfold cut; simp
  unfold turned9
  rw [e, List.set_eq_take_append_cons_drop, if_pos h]
theorem two_saves (a b : Int) (a0 : -9223372036854775808 ≤ a) (a1 : a ≤ 9223372036854775807) :
    (savD (savD (newD []) a) b).s = pack 1 a ++ pack 2 b := by
  have hl := newD_live []
  obtain ⟨_, hl2, e2⟩ := live_save hl a
  obtain ⟨_, _, e3⟩ := live_save hl2 b
  have s0 : (newD []).s = List.replicate 32 0 := by simp [newD]
  have hA : slA (newD []).s = ⟨false, 0, 0⟩ := slA_head (x := 0) (by rw [s0]; rfl) (by decide)
  have hB : slB (newD []).s = ⟨false, 0, 0⟩ := slB_head (x := 0) (by rw [s0]; rfl) (by decide)
  have hn : newest (slA (newD []).s) (slB (newD []).s) = -1 := by rw [hA, hB]; rfl
  have t0 : target (newD []).s = 0 := by unfold target; rw [hn]; rfl
  have p0 : packS (newD []).s a = pack 1 a := by unfold packS nextSeq; rw [hn]; rfl
  have lp : (pack 1 a).length = 16 := pack_length _ _
  rw [t0, p0] at e2
  obtain ⟨h1, h2, _, _⟩ := put_slots hl.ok.s lp
  rw [sl_pack 1 a (by decide) (by decide) a0 a1] at h1
  rw [hB] at h2
  rw [← e2] at h1 h2
  have hn1 : newest (slA (savD (newD []) a).s) (slB (savD (newD []) a).s) = 0 := by rw [h1, h2]; rfl
  have t1 : target (savD (newD []) a).s = 16 := by unfold target; rw [hn1]; rfl
  have p1 : packS (savD (newD []) a).s b = pack 2 b := by unfold packS nextSeq; rw [hn1, h1]; rfl
  rw [e3, t1, p1, e2]
  unfold put16
  rw [List.take_zero, List.nil_append, List.take_left' lp, List.drop_of_length_le (by rw [List.length_append, lp, s0]; simp), List.append_nil]
theorem byte_at {l : List UInt8} {j : Nat} (h : j < l.length) : ∃ y : UInt8, l[j]? = some y ∧ byteAt l j = (y.toNat : Int) := by
  refine ⟨l[j], List.getElem?_eq_getElem h, ?_⟩
  unfold byteAt
  simp [List.getD_eq_getElem?_getD, h]
theorem spoil_two (a b : Int) (a0 : -9223372036854775808 ≤ a) (a1 : a ≤ 9223372036854775807) (b0 : -9223372036854775808 ≤ b) (b1 : b ≤ 9223372036854775807) {j : Nat} (hj : j < 32) {x : UInt8} (hx : (x.toNat : Int) ≠ byteAt (pack 1 a ++ pack 2 b) j) :
    (turned9 (pack 1 a ++ pack 2 b) j x).length = 32 ∧
    (j < 16 → slA (turned9 (pack 1 a ++ pack 2 b) j x) = ⟨false, 0, 0⟩ ∧ slB (turned9 (pack 1 a ++ pack 2 b) j x) = ⟨true, 2, b⟩ ∧ loadV (turned9 (pack 1 a ++ pack 2 b) j x) = b ∧ loadB (turned9 (pack 1 a ++ pack 2 b) j x) = true) ∧
    (16 ≤ j → slA (turned9 (pack 1 a ++ pack 2 b) j x) = ⟨true, 1, a⟩ ∧ slB (turned9 (pack 1 a ++ pack 2 b) j x) = ⟨false, 0, 0⟩ ∧ loadV (turned9 (pack 1 a ++ pack 2 b) j x) = a ∧ loadB (turned9 (pack 1 a ++ pack 2 b) j x) = true) := by
  have lp : (pack 1 a).length = 16 := pack_length _ _
  have lq : (pack 2 b).length = 16 := pack_length _ _
  have ll : (pack 1 a ++ pack 2 b).length = 32 := by rw [List.length_append, lp, lq]
  rw [turned9_set x (by omega)]
  obtain ⟨y, hy, hby⟩ := byte_at (l := pack 1 a ++ pack 2 b) (j := j) (by omega)
  have hxy : x ≠ y := fun e => hx (by rw [hby, e])
  refine ⟨by rw [List.length_set, ll], fun h => ?_, fun h => ?_⟩
  · have e : (pack 1 a ++ pack 2 b).set j x = (pack 1 a).set j x ++ pack 2 b := by rw [List.set_append_left _ _ (by omega)]
    have ls : ((pack 1 a).set j x).length = 16 := by rw [List.length_set, lp]
    have hA : slA ((pack 1 a ++ pack 2 b).set j x) = ⟨false, 0, 0⟩ := by
      unfold slA
      rw [e, List.take_left' ls]
      rw [List.getElem?_append_left (by omega)] at hy
      exact spoilt lp (by rw [sl_pack 1 a (by decide) (by decide) a0 a1]) hy hxy
    have hB : slB ((pack 1 a ++ pack 2 b).set j x) = ⟨true, 2, b⟩ := by
      unfold slB
      rw [e, List.drop_left' ls, List.take_of_length_le (by omega), sl_pack 2 b (by decide) (by decide) b0 b1]
    refine ⟨hA, hB, ?_, ?_⟩
    · unfold loadV; rw [hA, hB]; rfl
    · unfold loadB; rw [hA, hB]; rfl
  · have e : (pack 1 a ++ pack 2 b).set j x = pack 1 a ++ (pack 2 b).set (j - 16) x := by rw [List.set_append_right _ _ (by omega), lp]
    have ls : ((pack 2 b).set (j - 16) x).length = 16 := by rw [List.length_set, lq]
    have hA : slA ((pack 1 a ++ pack 2 b).set j x) = ⟨true, 1, a⟩ := by
      unfold slA
      rw [e, List.take_left' lp, sl_pack 1 a (by decide) (by decide) a0 a1]
    have hB : slB ((pack 1 a ++ pack 2 b).set j x) = ⟨false, 0, 0⟩ := by
      unfold slB
      rw [e, List.drop_left' lp, List.take_of_length_le (by omega)]
      rw [List.getElem?_append_right (by omega), lp] at hy
      exact spoilt lq (by rw [sl_pack 2 b (by decide) (by decide) b0 b1]) hy hxy
    refine ⟨hA, hB, ?_, ?_⟩
    · unfold loadV; rw [hA, hB]; rfl
    · unfold loadB; rw [hA, hB]; rfl
end Go.Proofs.Ytcfdggeoecdnnaa.W
