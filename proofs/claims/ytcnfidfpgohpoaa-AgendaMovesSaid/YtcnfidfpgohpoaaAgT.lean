/- The code's agenda, walked: an item that goes up, or down. -/
import Derived.Test.YtcnfidfpgohpoaaAgS
namespace Go.Proofs.Ytcnfidfpgohpoaa.W
open Go.RowKit Go.Sort
set_option linter.unusedVariables false
set_option linter.unusedSimpArgs false
theorem goes_ahead (args : Array Value) (w : World) : (callFunc 45 args).run Try.prog w = .ok (.enter 45 args) w := by kernel_rfl
theorem goes_swap (args : Array Value) (w : World) : (callFunc 42 args).run Try.prog w = .ok (.enter 42 args) w := by kernel_rfl
/-- Blocks of the heap's that a swap writes. -/
abbrev Sw (m : Nat) (v : Value) : Nat → Prop := fun k => k = m ∨ v.ownBlock = some k
theorem Touch.same {F : Nat → Prop} {a b c : World} (h : Touch F a b) (g : Touch F b c) : Touch F a c := h.trans g (fun k hk => .inl hk)
theorem Touch.more {F : Nat → Prop} {a b c : World} (h : Touch F a b) (g : Below b.heap.size b c) : Touch F a c := h.same (Touch.of_below F g)
set_option maxHeartbeats 6400000 in
theorem grise_any {hb m : Nat} {v : Value} {h : List It} {n : Int} {p : Nat} (w : World) (x : Hv w hb v m h n) (hp : p < h.length) (hH : Hole h p) :
    Calls Try.prog 44 #[.int .i64 p, .func (.func 45) #[.pointer (some ⟨hb, 0, none⟩)] #[], .func (.func 42) #[.pointer (some ⟨hb, 0, none⟩)] #[]] w fun e w' =>
      e = .returned (.tuple #[]) ∧ ∃ h', Hv w' hb v m h' n ∧ h'.Perm h ∧ Dn h' p ∧ Touch (Sw m v) w w' := by
  have X := Lib.hid x
  have HH := Lib.hid hH
  have hlen := x.len
  clear x hH
  go_enter Try.func44, Try.ntmps44
  go_wp2
  go_loopw [0] (fun i wr => ∃ (q : Nat) (h1 : List It), i = .int .i64 q ∧ q ≤ p ∧ Hv wr hb v m h1 n ∧ h1.Perm h ∧ ((q = p ∧ h1 = h) ∨ Up h1 q) ∧ Touch (Sw m v) w wr) (fun i _ => (intOf i).toNat)
  case atStart => exact ⟨p, h, rfl, Nat.le_refl _, X.out, List.Perm.refl _, .inl ⟨rfl, rfl⟩, Touch.refl _ _⟩
  case round =>
    obtain ⟨q, h1, rfl, hq, hv, hpm, hR, hT⟩ := hrel
    have hl1 := hpm.length_eq
    have V := Lib.hid hv
    have R := Lib.hid (And.intro hpm (And.intro hR hT))
    clear hv hpm hR hT
    by_cases h0 : 0 < q
    · obtain ⟨r, hr⟩ : ∃ r : Nat, (q - 1) / 2 = r := ⟨_, rfl⟩
      obtain ⟨a, ha⟩ : ∃ a, h1[q]? = some a := ⟨_, List.getElem?_eq_getElem (by omega)⟩
      obtain ⟨b, hb'⟩ : ∃ b, h1[r]? = some b := ⟨_, List.getElem?_eq_getElem (by omega)⟩
      have ca := fun w' hw' => gahead_any (h := h1) (n := n) (m := m) (v := v) (hb := hb) w' hw' ha hb'
      have cs := fun w' hw' => gswap_any (h := h1) (n := n) (m := m) (v := v) (hb := hb) w' hw' ha hb'
      have e1 : wrap64 ((q : Int) - 1) = (q : Int) - 1 := by unfold wrap64; omega
      have e2 : ((q : Int) - 1).tdiv 2 = (r : Int) := by rw [Int.tdiv_eq_ediv_of_nonneg (by omega)]; omega
      have e3 : wrap64 (r : Int) = (r : Int) := by unfold wrap64; omega
      have HA := Lib.hid ha
      have HB := Lib.hid hb'
      clear ha hb'
      cases hd : ahead a b
      · rw [hd] at ca
        have hnb : nb b a := hd
        clear hd
        go_wp2_with fail
        (with_reducible refine (ca _ V.out).mono ?_)
        rintro e w1 ⟨rfl, hB1⟩
        have V1 := Lib.hid (V.out.below hB1)
        have B1 := Lib.hid hB1
        clear hB1
        go_wp2_with fail
        refine bodyPost_ret (results_none rfl _ _ _) rfl ?_
        refine ⟨rfl, h1, V1.out, R.out.1, ?_, R.out.2.2.more B1.out⟩
        rcases R.out.2.1 with ⟨rfl, rfl⟩ | hu
        · exact hole_dn HH.out fun x y _ hx hy => by
            rw [HA.out] at hx
            rw [hr, HB.out] at hy
            cases hx; cases hy
            exact hnb
        · exact nb_heap (up_done hu fun x y _ hx hy => by
            rw [HA.out] at hx
            rw [hr, HB.out] at hy
            cases hx; cases hy
            exact hnb) p
      · rw [hd] at ca
        have HD := Lib.hid hd
        clear hd
        go_wp2_with fail
        (with_reducible refine (ca _ V.out).mono ?_)
        rintro e w1 ⟨rfl, hB1⟩
        have V1 := Lib.hid (V.out.below hB1)
        have B1 := Lib.hid hB1
        clear hB1
        go_wp2_with fail
        (with_reducible refine (cs _ V1.out).mono ?_)
        rintro e w2 ⟨rfl, hV2, hT2⟩
        have V2 := Lib.hid (And.intro hV2 hT2)
        clear hV2 hT2
        go_wp2_with fail
        go_roundw
        case rel =>
          refine ⟨r, swapL h1 q r a b, rfl, by omega, V2.out.1, (swap_perm HA.out HB.out).trans R.out.1, .inr ?_, (R.out.2.2.more B1.out).same V2.out.2⟩
          rcases R.out.2.1 with ⟨rfl, rfl⟩ | hu
          · have := up_swap (hole_up HH.out h0 HA.out (by rw [hr]; exact HB.out) HD.out) h0 HA.out (by rw [hr]; exact HB.out) HD.out
            rw [hr] at this
            exact this
          · have := up_swap hu h0 HA.out (by rw [hr]; exact HB.out) HD.out
            rw [hr] at this
            exact this
        case measure => simp [intOf]; omega
    · obtain rfl : q = 0 := by omega
      go_wp2_with fail
      go_end0
      refine ⟨rfl, h1, V.out, R.out.1, ?_, R.out.2.2⟩
      rcases R.out.2.1 with ⟨rfl, rfl⟩ | hu
      · exact hole_dn HH.out fun x y h0 => absurd h0 (by omega)
      · exact nb_heap (up_done hu fun x y h0 => absurd h0 (by omega)) p
end Go.Proofs.Ytcnfidfpgohpoaa.W
