/- The code's agenda, walked: an item that goes down. -/
import Derived.Test.YtcnfidfpgohpoaaAgT
namespace Go.Proofs.Ytcnfidfpgohpoaa.W
open Go.RowKit Go.Sort
set_option linter.unusedVariables false
set_option linter.unusedSimpArgs false
/-- f is the first in order of q and of those of its children that stand ahead of place b. -/
structure Least (h : List It) (q b f : Nat) : Prop where
  at_ : ∃ x z, h[q]? = some x ∧ h[f]? = some z ∧ (f = q ∨ (f < b ∧ q < f ∧ (f - 1) / 2 = q ∧ ahead z x = true)) ∧ ∀ k y, 2 * q + 1 ≤ k → k < b → h[k]? = some y → nb z y
theorem least_start {h : List It} {q : Nat} (hq : q < h.length) : Least h q (2 * q + 1) q :=
  ⟨_, _, List.getElem?_eq_getElem hq, List.getElem?_eq_getElem hq, .inl rfl, fun k y h1 h2 => by omega⟩
theorem least_lt {h : List It} {q b f : Nat} (L : Least h q b f) : f < h.length := by
  obtain ⟨x, z, _, hz, _⟩ := L.at_
  exact (List.getElem?_eq_some_iff.1 hz).1
theorem least_take {h : List It} {q b f : Nat} {y z : It} (L : Least h q b f) (hb : b = 2 * q + 1 ∨ b = 2 * q + 2) (hy : h[b]? = some y) (hz : h[f]? = some z) (ha : ahead y z = true) : Least h q (b + 1) b := by
  obtain ⟨x, z', hx, hz', h1, h2⟩ := L.at_
  rw [hz] at hz'
  cases hz'
  have hyx : ahead y x = true := by
    rcases h1 with rfl | ⟨_, _, _, h1⟩
    · rw [hx] at hz
      cases hz
      exact ha
    · exact ahead_trans ha h1
  refine ⟨x, y, hx, hy, .inr ⟨by omega, by omega, by omega, hyx⟩, fun k w k1 k2 hw => ?_⟩
  by_cases e : k = b
  · subst e
    rw [hy] at hw
    cases hw
    exact nb_refl _
  · exact nb_trans (nb_of_ahead ha) (h2 k w k1 (by omega) hw)
theorem least_keep {h : List It} {q b f : Nat} {y z : It} (L : Least h q b f) (hy : h[b]? = some y) (hz : h[f]? = some z) (ha : ahead y z = false) : Least h q (b + 1) f := by
  obtain ⟨x, z', hx, hz', h1, h2⟩ := L.at_
  rw [hz] at hz'
  cases hz'
  refine ⟨x, z, hx, hz, ?_, fun k w k1 k2 hw => ?_⟩
  · rcases h1 with h1 | ⟨a1, a2, a3, a4⟩
    · exact .inl h1
    · exact .inr ⟨by omega, a2, a3, a4⟩
  · by_cases e : k = b
    · subst e
      rw [hy] at hw
      cases hw
      exact ha
    · exact h2 k w k1 (by omega) hw
/-- It is none of the children: all is well. -/
theorem least_here {h : List It} {q b : Nat} (L : Least h q b q) (D : Dn h q) (hb : 2 * q + 3 ≤ b ∨ h.length ≤ b) : HeapF h := by
  obtain ⟨x, z, hx, hz, h1, h2⟩ := L.at_
  refine dn_done D fun j y r hj hpar hy hr => ?_
  rw [hz] at hr
  cases hr
  have := (List.getElem?_eq_some_iff.1 hy).1
  exact h2 j y (by omega) (by omega) hy
theorem least_swap {h : List It} {q b f : Nat} {x z : It} (L : Least h q b f) (D : Dn h q) (hb : 2 * q + 3 ≤ b ∨ h.length ≤ b) (hne : f ≠ q) (hx : h[q]? = some x) (hz : h[f]? = some z) : q < f ∧ Dn (swapL h q f x z) f := by
  obtain ⟨x', z', hx', hz', h1, h2⟩ := L.at_
  rw [hx] at hx'
  rw [hz] at hz'
  cases hx'; cases hz'
  rcases h1 with h1 | ⟨a1, a2, a3, a4⟩
  · exact absurd h1 hne
  · refine ⟨a2, dn_swap D (by omega) a3 hx hz a4 fun j y hj hpar hy => ?_⟩
    have := (List.getElem?_eq_some_iff.1 hy).1
    exact h2 j y (by omega) (by omega) hy
set_option maxHeartbeats 12800000 in
theorem gsink_any {hb m : Nat} {v : Value} {h : List It} {n : Int} {p : Nat} (w : World) (x : Hv w hb v m h n) (hp : p < h.length) (hD : Dn h p) :
    Calls Try.prog 59 #[.int .i64 p, .int .i64 h.length, .func (.func 45) #[.pointer (some ⟨hb, 0, none⟩)] #[], .func (.func 42) #[.pointer (some ⟨hb, 0, none⟩)] #[]] w fun e w' =>
      e = .returned (.tuple #[]) ∧ ∃ h', Hv w' hb v m h' n ∧ h'.Perm h ∧ HeapF h' ∧ Touch (Sw m v) w w' := by
  have X := Lib.hid x
  have HD := Lib.hid hD
  have hlen := x.len
  clear x hD
  go_enter Try.func59, Try.ntmps59
  go_wp2
  go_loopw [0] (fun i wr => ∃ (q : Nat) (h1 : List It), i = .int .i64 q ∧ q < h.length ∧ Hv wr hb v m h1 n ∧ h1.Perm h ∧ Dn h1 q ∧ Touch (Sw m v) w wr) (fun i _ => h.length - (intOf i).toNat)
  case atStart => exact ⟨p, h, rfl, hp, X.out, List.Perm.refl _, HD.out, Touch.refl _ _⟩
  case round =>
    obtain ⟨q, h1, rfl, hq, hv, hpm, hR, hT⟩ := hrel
    have hl1 := hpm.length_eq
    have V := Lib.hid hv
    have R := Lib.hid (And.intro hpm (And.intro hR hT))
    clear hv hpm hR hT
    generalize wr = w0 at *
    go_wp2_with fail
    have L0 := least_start (h := h1) (q := q) (by omega)
    go_loopw [8, 9] (fun ff bb w1 => ∃ (f b : Nat), ff = .int .i64 f ∧ bb = .int .i64 b ∧ 2 * q + 1 ≤ b ∧ b ≤ 2 * q + 3 ∧ Least h1 q b f ∧ Below w0.heap.size w0 w1) (fun _ bb _ => 2 * q + 3 - (intOf bb).toNat)
    case atStart => exact ⟨q, 2 * q + 1, rfl, by go_num, Nat.le_refl _, by omega, L0, Below.refl _ _⟩
    case round =>
      clear L0
      obtain ⟨f, b, rfl, rfl, hb1, hb2, hL, hB⟩ := hrel
      have hf := least_lt hL
      have V1 := Lib.hid (V.out.below hB)
      have L := Lib.hid (And.intro hL hB)
      clear hL hB
      by_cases hin : b ≤ 2 * q + 2
      · have c1 : (b : Int) ≤ 2 * (q : Int) + 2 := by omega
        by_cases hin2 : b < h.length
        · obtain ⟨y, hy⟩ : ∃ y, h1[b]? = some y := ⟨_, List.getElem?_eq_getElem (by omega)⟩
          obtain ⟨z, hz⟩ : ∃ z, h1[f]? = some z := ⟨_, List.getElem?_eq_getElem hf⟩
          have ca := gahead_any (n := n) (m := m) (v := v) (hb := hb) wr V1.out hy hz
          have HY := Lib.hid (And.intro hy hz)
          clear hy hz
          have c2 : (b : Int) < (h.length : Int) := by omega
          cases ha : ahead y z
          · rw [ha] at ca
            have HA := Lib.hid ha
            clear ha
            go_wp2_with fail
            (with_reducible refine ca.mono ?_)
            rintro e w2 ⟨rfl, hB2⟩
            have B2 := Lib.hid hB2
            clear hB2 ca
            go_wp2_with fail
            go_roundw
            case rel => exact ⟨f, b + 1, rfl, by go_num, by omega, by omega, least_keep L.out.1 HY.out.1 HY.out.2 HA.out, L.out.2.trans (B2.out.mono L.out.2.size)⟩
            case measure => simp [intOf]; omega
          · rw [ha] at ca
            have HA := Lib.hid ha
            clear ha
            go_wp2_with fail
            (with_reducible refine ca.mono ?_)
            rintro e w2 ⟨rfl, hB2⟩
            have B2 := Lib.hid hB2
            clear hB2 ca
            go_wp2_with fail
            go_roundw
            case rel => exact ⟨b, b + 1, rfl, by go_num, by omega, by omega, least_take L.out.1 (by omega) HY.out.1 HY.out.2 HA.out, L.out.2.trans (B2.out.mono L.out.2.size)⟩
            case measure => simp [intOf]; omega
        · have c2 : ¬ (b : Int) < (h.length : Int) := by omega
          have hend : 2 * q + 3 ≤ b ∨ h1.length ≤ b := by omega
          by_cases hfq : f = q
          · subst hfq
            go_wp2_with fail
            refine bodyPost_ret (results_none rfl _ _ _) rfl ?_
            exact ⟨rfl, h1, V1.out, R.out.1, least_here L.out.1 R.out.2.1 hend, R.out.2.2.more L.out.2⟩
          · obtain ⟨x, hx⟩ : ∃ x, h1[q]? = some x := ⟨_, List.getElem?_eq_getElem (by omega)⟩
            obtain ⟨z, hz⟩ : ∃ z, h1[f]? = some z := ⟨_, List.getElem?_eq_getElem hf⟩
            have ca := gswap_any (n := n) (m := m) (v := v) (hb := hb) wr V1.out hx hz
            have HS := Lib.hid (least_swap L.out.1 R.out.2.1 hend hfq hx hz)
            have HP := Lib.hid (swap_perm hx hz)
            have hne : ((f : Int) == (q : Int)) = false := by rw [beq_eq_false_iff_ne]; omega
            clear hx hz
            go_wp2_with fail
            (with_reducible refine ca.mono ?_)
            rintro e w2 ⟨rfl, hV2, hT2⟩
            have V2 := Lib.hid (And.intro hV2 hT2)
            clear hV2 hT2 ca
            go_wp2_with fail
            go_roundw
            case rel => exact ⟨f, _, rfl, by omega, V2.out.1, HP.out.trans R.out.1, HS.out.2, (R.out.2.2.more L.out.2).same V2.out.2⟩
            case measure =>
              have := HS.out.1
              simp [intOf]
              omega
      · have c1 : ¬ (b : Int) ≤ 2 * (q : Int) + 2 := by omega
        have hend : 2 * q + 3 ≤ b ∨ h1.length ≤ b := by omega
        by_cases hfq : f = q
        · subst hfq
          go_wp2_with fail
          refine bodyPost_ret (results_none rfl _ _ _) rfl ?_
          exact ⟨rfl, h1, V1.out, R.out.1, least_here L.out.1 R.out.2.1 hend, R.out.2.2.more L.out.2⟩
        · obtain ⟨x, hx⟩ : ∃ x, h1[q]? = some x := ⟨_, List.getElem?_eq_getElem (by omega)⟩
          obtain ⟨z, hz⟩ : ∃ z, h1[f]? = some z := ⟨_, List.getElem?_eq_getElem hf⟩
          have ca := gswap_any (n := n) (m := m) (v := v) (hb := hb) wr V1.out hx hz
          have HS := Lib.hid (least_swap L.out.1 R.out.2.1 hend hfq hx hz)
          have HP := Lib.hid (swap_perm hx hz)
          have hne : ((f : Int) == (q : Int)) = false := by rw [beq_eq_false_iff_ne]; omega
          clear hx hz
          go_wp2_with fail
          (with_reducible refine ca.mono ?_)
          rintro e w2 ⟨rfl, hV2, hT2⟩
          have V2 := Lib.hid (And.intro hV2 hT2)
          clear hV2 hT2 ca
          go_wp2_with fail
          go_roundw
          case rel => exact ⟨f, _, rfl, by omega, V2.out.1, HP.out.trans R.out.1, HS.out.2, (R.out.2.2.more L.out.2).same V2.out.2⟩
          case measure =>
            have := HS.out.1
            simp [intOf]
            omega
end Go.Proofs.Ytcnfidfpgohpoaa.W
