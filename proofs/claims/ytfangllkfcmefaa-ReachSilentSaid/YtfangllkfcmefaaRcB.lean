/- Layer 11's register: the last eight answers, and how many they are. No program in it. -/
import Derived.Test.YtfangllkfcmefaaRcA
namespace Go.Proofs.Ytfangllkfcmefaa.W
open Go.RowKit
set_option linter.unusedVariables false
def bitZ (z : List Bool) (k : Nat) : Int := if z[k]? = some true then 1 else 0
def cntZ (z : List Bool) (lo : Nat) : Nat → Int
  | 0 => 0
  | m + 1 => cntZ z lo m + bitZ z (lo + m)
def regZ (z : List Bool) : Nat → Int
  | 0 => 0
  | j + 1 => regZ z j * 2 % 256 + bitZ z j
/-- The answer of b questions ago, behind j questions. -/
def agoZ (z : List Bool) (j b : Nat) : Int := if b < j then bitZ z (j - 1 - b) else 0
theorem bit_in (z : List Bool) (k : Nat) : 0 ≤ bitZ z k ∧ bitZ z k ≤ 1 := by
  unfold bitZ
  split <;> omega
theorem ago_in (z : List Bool) (j b : Nat) : 0 ≤ agoZ z j b ∧ agoZ z j b ≤ 1 := by
  unfold agoZ
  split
  · exact bit_in z _
  · omega
theorem ago_zero (z : List Bool) (j : Nat) : agoZ z (j + 1) 0 = bitZ z j := by
  unfold agoZ
  rw [if_pos (by omega), show j + 1 - 1 - 0 = j by omega]
theorem ago_succ (z : List Bool) (j b : Nat) : agoZ z (j + 1) (b + 1) = agoZ z j b := by
  unfold agoZ
  by_cases h : b < j
  · rw [if_pos h, if_pos (by omega), show j + 1 - 1 - (b + 1) = j - 1 - b by omega]
  · rw [if_neg h, if_neg (by omega)]
theorem reg_bits (z : List Bool) (j : Nat) : regZ z j = agoZ z j 0 + 2 * agoZ z j 1 + 4 * agoZ z j 2 + 8 * agoZ z j 3 + 16 * agoZ z j 4 + 32 * agoZ z j 5 + 64 * agoZ z j 6 + 128 * agoZ z j 7 := by
  induction j with
  | zero => simp [regZ, agoZ]
  | succ j ih =>
    have h0 := ago_zero z j
    have h1 := ago_succ z j 0
    have h2 := ago_succ z j 1
    have h3 := ago_succ z j 2
    have h4 := ago_succ z j 3
    have h5 := ago_succ z j 4
    have h6 := ago_succ z j 5
    have h7 := ago_succ z j 6
    rw [show regZ z (j + 1) = regZ z j * 2 % 256 + bitZ z j from rfl, h0, h1, h2, h3, h4, h5, h6, h7, ih]
    have a0 := ago_in z j 0
    have a1 := ago_in z j 1
    have a2 := ago_in z j 2
    have a3 := ago_in z j 3
    have a4 := ago_in z j 4
    have a5 := ago_in z j 5
    have a6 := ago_in z j 6
    have a7 := ago_in z j 7
    omega
theorem reg_in (z : List Bool) (j : Nat) : 0 ≤ regZ z j ∧ regZ z j ≤ 255 := by
  have a0 := ago_in z j 0
  have a1 := ago_in z j 1
  have a2 := ago_in z j 2
  have a3 := ago_in z j 3
  have a4 := ago_in z j 4
  have a5 := ago_in z j 5
  have a6 := ago_in z j 6
  have a7 := ago_in z j 7
  rw [reg_bits]
  omega
theorem eight_bits {r c0 c1 c2 c3 c4 c5 c6 c7 : Int} (h : r = c0 + 2 * c1 + 4 * c2 + 8 * c3 + 16 * c4 + 32 * c5 + 64 * c6 + 128 * c7)
    (a0 : 0 ≤ c0 ∧ c0 ≤ 1) (a1 : 0 ≤ c1 ∧ c1 ≤ 1) (a2 : 0 ≤ c2 ∧ c2 ≤ 1) (a3 : 0 ≤ c3 ∧ c3 ≤ 1) (a4 : 0 ≤ c4 ∧ c4 ≤ 1) (a5 : 0 ≤ c5 ∧ c5 ≤ 1) (a6 : 0 ≤ c6 ∧ c6 ≤ 1) (a7 : 0 ≤ c7 ∧ c7 ≤ 1) :
    r % 2 + r / 2 % 2 + r / 4 % 2 + r / 8 % 2 + r / 16 % 2 + r / 32 % 2 + r / 64 % 2 + r / 128 % 2 = c0 + c1 + c2 + c3 + c4 + c5 + c6 + c7 := by
  have half : ∀ x c y : Int, x = c + 2 * y → 0 ≤ c ∧ c ≤ 1 → x % 2 = c ∧ x / 2 = y := fun x c y h1 h2 => by omega
  obtain ⟨m0, d0⟩ := half r c0 (c1 + 2 * (c2 + 2 * (c3 + 2 * (c4 + 2 * (c5 + 2 * (c6 + 2 * c7)))))) (by omega) a0
  obtain ⟨m1, d1⟩ := half _ c1 _ d0 a1
  obtain ⟨m2, d2⟩ := half _ c2 _ d1 a2
  obtain ⟨m3, d3⟩ := half _ c3 _ d2 a3
  obtain ⟨m4, d4⟩ := half _ c4 _ d3 a4
  obtain ⟨m5, d5⟩ := half _ c5 _ d4 a5
  obtain ⟨m6, d6⟩ := half _ c6 _ d5 a6
  have four : ∀ x : Int, x / 2 / 2 = x / 4 := fun x => by omega
  have f4 := four r
  have f8 : r / 2 / 2 / 2 = r / 8 := by omega
  have f16 : r / 2 / 2 / 2 / 2 = r / 16 := by rw [f8]; omega
  have f32 : r / 2 / 2 / 2 / 2 / 2 = r / 32 := by rw [f16]; omega
  have f64 : r / 2 / 2 / 2 / 2 / 2 / 2 = r / 64 := by rw [f32]; omega
  have f128 : r / 2 / 2 / 2 / 2 / 2 / 2 / 2 = r / 128 := by rw [f64]; omega
  rw [f128] at d6
  rw [f64] at m6
  rw [f32] at m5
  rw [f16] at m4
  rw [f8] at m3
  rw [f4] at m2
  have m7 : r / 128 % 2 = c7 := by rw [d6]; omega
  rw [m0, m1, m2, m3, m4, m5, m6, m7]
/-- The last eight, counted. -/
theorem last_eight (z : List Bool) (i : Nat) : cntZ z (i - 7) (i + 1 - (i - 7)) = agoZ z (i + 1) 0 + agoZ z (i + 1) 1 + agoZ z (i + 1) 2 + agoZ z (i + 1) 3 + agoZ z (i + 1) 4 + agoZ z (i + 1) 5 + agoZ z (i + 1) 6 + agoZ z (i + 1) 7 := by
  by_cases h : 7 ≤ i
  · obtain ⟨k, rfl⟩ : ∃ k, i = k + 7 := ⟨i - 7, by omega⟩
    rw [show k + 7 - 7 = k by omega, show k + 7 + 1 - k = 8 by omega]
    have e : ∀ b, b < 8 → agoZ z (k + 7 + 1) b = bitZ z (k + (7 - b)) := fun b hb => by
      unfold agoZ
      rw [if_pos (by omega), show k + 7 + 1 - 1 - b = k + (7 - b) by omega]
    have e0 : agoZ z (k + 7 + 1) 0 = bitZ z (k + 7) := e 0 (by decide)
    have e1 : agoZ z (k + 7 + 1) 1 = bitZ z (k + 6) := e 1 (by decide)
    have e2 : agoZ z (k + 7 + 1) 2 = bitZ z (k + 5) := e 2 (by decide)
    have e3 : agoZ z (k + 7 + 1) 3 = bitZ z (k + 4) := e 3 (by decide)
    have e4 : agoZ z (k + 7 + 1) 4 = bitZ z (k + 3) := e 4 (by decide)
    have e5 : agoZ z (k + 7 + 1) 5 = bitZ z (k + 2) := e 5 (by decide)
    have e6 : agoZ z (k + 7 + 1) 6 = bitZ z (k + 1) := e 6 (by decide)
    have e7 : agoZ z (k + 7 + 1) 7 = bitZ z k := e 7 (by decide)
    rw [e0, e1, e2, e3, e4, e5, e6, e7]
    simp only [cntZ]
    simp only [Nat.add_zero]
    omega
  · have hi : i = 0 ∨ i = 1 ∨ i = 2 ∨ i = 3 ∨ i = 4 ∨ i = 5 ∨ i = 6 := by omega
    rcases hi with rfl | rfl | rfl | rfl | rfl | rfl | rfl <;> simp [cntZ, agoZ] <;> omega
theorem ans_cnt (z : List Bool) (i : Nat) (s : Rs) (h : s.reg = regZ z (i + 1)) : ansI s = cntZ z (i - 7) (i + 1 - (i - 7)) := by
  rw [last_eight]
  unfold ansI
  rw [h]
  exact eight_bits (reg_bits z (i + 1)) (ago_in ..) (ago_in ..) (ago_in ..) (ago_in ..) (ago_in ..) (ago_in ..) (ago_in ..) (ago_in ..)
theorem cnt_in (z : List Bool) (lo m : Nat) : 0 ≤ cntZ z lo m ∧ cntZ z lo m ≤ m := by
  induction m with
  | zero => simp [cntZ]
  | succ m ih =>
    have := bit_in z (lo + m)
    simp only [cntZ]
    omega
/-- What a state is, behind j questions of the law's. -/
structure CntAt (r : Int) (j : Nat) (s : Rs) : Prop where
  reg : s.reg = r
  rin : 0 ≤ r ∧ r ≤ 255
  host : 6 ≤ s.host ∧ s.host ≤ 10
  peer : 6 ≤ s.peer ∧ s.peer ≤ 10
  burst : s.burst = 0
  next : 0 ≤ s.next ∧ s.next ≤ j * 4398046511104
theorem CntAt.typed {r : Int} {j : Nat} {s : Rs} (h : CntAt r j s) (hj : j ≤ 1000) : s.Typed := by
  obtain ⟨a, b, c, d, e, f⟩ := h
  exact ⟨by omega, by omega, by omega, by omega, by omega⟩
theorem cnt_start {p : Pm} (H : Std p) : CntAt 0 0 (startS p 0 0) := by
  unfold startS
  rw [H.minpoll, H.burst]
  exact ⟨rfl, by decide, by decide, by decide, rfl, by decide⟩
theorem cnt_sent {p : Pm} (H : Std p) {r : Int} {j : Nat} {s : Rs} (h : CntAt r j s) (hj : j ≤ 1000) : CntAt (r * 2 % 256) (j + 1) (sentS p s s.next 0) := by
  obtain ⟨a, b, c, d, e, f⟩ := h
  obtain ⟨g1, g2, g3, _⟩ := host_range H c.1 c.2
  have hw := wait_std (now := s.next) (draw := 0) (n := heldI p (min (hostS p s) s.peer)) (held_range H _).1 (held_range H _).2 f.1 (by omega) (by decide) (by decide)
  unfold sentS
  rw [if_neg (by omega), a]
  refine ⟨rfl, by omega, ⟨g2, g3⟩, d, e, ?_⟩
  show 0 ≤ waitS s.next 0 (heldI p (min (hostS p s) s.peer)) ∧ waitS s.next 0 (heldI p (min (hostS p s) s.peer)) ≤ _
  generalize waitS s.next 0 (heldI p (min (hostS p s) s.peer)) = W at *
  generalize heldI p (min (hostS p s) s.peer) = n at *
  rw [Int.natCast_add]
  omega
theorem cnt_heard {p : Pm} (H : Std p) {r : Int} {j : Nat} {s : Rs} (h : CntAt r j s) (poll : Int) : CntAt (if r % 2 = 0 then r + 1 else r) j (heardS p s poll) := by
  obtain ⟨a, b, c, d, e, f⟩ := h
  unfold heardS
  rw [a]
  refine ⟨rfl, ?_, c, held_range H poll, e, f⟩
  split <;> omega
theorem cnt_to {r r' : Int} {j : Nat} {s : Rs} (h : CntAt r j s) (e : r = r') : CntAt r' j s := e ▸ h
/-- What a state is, behind k questions, the last j of them with no answer. -/
structure SilAt (k j : Nat) (s : Rs) : Prop where
  rin : 0 ≤ s.reg ∧ s.reg ≤ 255
  host : 6 ≤ s.host ∧ s.host ≤ 10
  peer : 6 ≤ s.peer ∧ s.peer ≤ 10
  burst : s.burst = 0
  next : 0 ≤ s.next ∧ s.next ≤ k * 8796093022208
  still : (1 ≤ j → s.reg % 2 = 0) ∧ (2 ≤ j → s.reg % 4 = 0) ∧ (3 ≤ j → s.reg % 8 = 0) ∧ (4 ≤ j → s.reg % 16 = 0) ∧ (5 ≤ j → s.reg % 32 = 0) ∧ (6 ≤ j → s.reg % 64 = 0) ∧ (7 ≤ j → s.reg % 128 = 0) ∧ (8 ≤ j → s.reg = 0)
  rise : min 10 ((j : Int) + 4) ≤ s.host
theorem SilAt.typed {k j : Nat} {s : Rs} (h : SilAt k j s) (hj : k ≤ 1000) : s.Typed := by
  obtain ⟨a, c, d, e, f, _, _⟩ := h
  exact ⟨by omega, by omega, by omega, by omega, by omega⟩
theorem sil_start {p : Pm} (H : Std p) : SilAt 0 0 (startS p 0 0) := by
  unfold startS
  rw [H.minpoll, H.burst]
  refine ⟨by decide, by decide, by decide, rfl, by decide, ?_, by decide⟩
  refine ⟨?_, ?_, ?_, ?_, ?_, ?_, ?_, ?_⟩ <;> intro h <;> omega
theorem sil_heard {p : Pm} (H : Std p) {k j : Nat} {s : Rs} (h : SilAt k j s) (poll : Int) : SilAt k 0 (heardS p s poll) := by
  obtain ⟨a, c, d, e, f, _, _⟩ := h
  unfold heardS
  refine ⟨?_, c, held_range H poll, e, f, ?_, ?_⟩
  · show 0 ≤ (if s.reg % 2 = 0 then s.reg + 1 else s.reg) ∧ (if s.reg % 2 = 0 then s.reg + 1 else s.reg) ≤ 255
    split <;> omega
  · refine ⟨?_, ?_, ?_, ?_, ?_, ?_, ?_, ?_⟩ <;> intro h <;> omega
  · show min 10 ((0 : Nat) + 4 : Int) ≤ s.host
    omega
theorem sil_sent {p : Pm} (H : Std p) {k j : Nat} {s : Rs} (h : SilAt k j s) (hk : k ≤ 1000) {d : Int} (d0 : 0 ≤ d) (d1 : d < 4294967296) :
    SilAt (k + 1) (j + 1) (sentS p s s.next d) ∧ s.host ≤ (sentS p s s.next d).host ∧ s.next < (sentS p s s.next d).next ∧ (7 ≤ j → ansI (sentS p s s.next d) = 0) ∧ (40 ≤ j → (sentS p s s.next d).host = 10) := by
  obtain ⟨a, c, e, b, f, g, r⟩ := h
  obtain ⟨g1, g2, g3, g4⟩ := host_range H c.1 c.2
  have hw := wait_std (now := s.next) (draw := d) (n := heldI p (min (hostS p s) s.peer)) (held_range H _).1 (held_range H _).2 f.1 (by omega) d0 d1
  have es : sentS p s s.next d = ⟨s.reg * 2 % 256, hostS p s, s.peer, s.burst, waitS s.next d (heldI p (min (hostS p s) s.peer))⟩ := by
    unfold sentS
    rw [if_neg (by omega)]
  rw [es]
  generalize waitS s.next d (heldI p (min (hostS p s) s.peer)) = W at *
  generalize heldI p (min (hostS p s) s.peer) = n at *
  generalize hostS p s = x at *
  have hr : min 10 ((j + 1 : Nat) + 4 : Int) ≤ x := by
    rw [Int.natCast_add]
    by_cases h2 : 2 ≤ j
    · have h4 := g.2.1 h2
      have := g4 (by omega)
      omega
    · omega
  refine ⟨⟨⟨by show 0 ≤ s.reg * 2 % 256; omega, by show s.reg * 2 % 256 ≤ 255; omega⟩, ⟨g2, g3⟩, e, b, ⟨by show 0 ≤ W; omega, ?_⟩, ?_, hr⟩, g1, by show s.next < W; omega, fun h7 => ?_, fun h40 => ?_⟩
  · show W ≤ _
    rw [Int.natCast_add]
    omega
  · obtain ⟨u1, u2, u3, u4, u5, u6, u7, u8⟩ := g
    refine ⟨fun h => ?_, fun h => ?_, fun h => ?_, fun h => ?_, fun h => ?_, fun h => ?_, fun h => ?_, fun h => ?_⟩
    · show s.reg * 2 % 256 % 2 = 0
      omega
    · have := u1 (by omega)
      show s.reg * 2 % 256 % 4 = 0
      omega
    · have := u2 (by omega)
      show s.reg * 2 % 256 % 8 = 0
      omega
    · have := u3 (by omega)
      show s.reg * 2 % 256 % 16 = 0
      omega
    · have := u4 (by omega)
      show s.reg * 2 % 256 % 32 = 0
      omega
    · have := u5 (by omega)
      show s.reg * 2 % 256 % 64 = 0
      omega
    · have := u6 (by omega)
      show s.reg * 2 % 256 % 128 = 0
      omega
    · have := u7 (by omega)
      show s.reg * 2 % 256 = 0
      omega
  · have := g.2.2.2.2.2.2.1 h7
    have e0 : s.reg * 2 % 256 = 0 := by omega
    unfold ansI
    dsimp only
    rw [e0]
    decide
  · show x = 10
    rw [Int.natCast_add] at hr
    omega
theorem SilAt.weak {k j : Nat} {s : Rs} (h : SilAt k j s) : SilAt k 0 s := by
  obtain ⟨a, c, e, b, f, g, r⟩ := h
  refine ⟨a, c, e, b, f, ?_, by omega⟩
  refine ⟨?_, ?_, ?_, ?_, ?_, ?_, ?_, ?_⟩ <;> intro h <;> omega
end Go.Proofs.Ytfangllkfcmefaa.W
