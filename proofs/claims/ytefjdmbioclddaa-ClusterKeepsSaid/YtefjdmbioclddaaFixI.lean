/- The document's own means, walked: quotients and rests. -/
import Derived.Test.YtefjdmbioclddaaFixH
import Derived.Test.YtefjdmbioclddaaFixE
namespace Go.Proofs.Ytefjdmbioclddaa.W
open Go.RowKit
set_option linter.unusedVariables false
set_option linter.unusedSimpArgs false
/-- The quotients and the rests of the first k numbers; the quotients' sum may have gone round. -/
structure MeanAt (z : List Int) (n k : Nat) (u v : Int) : Prop where
  u0 : -9223372036854775808 ≤ u
  u1 : u ≤ 9223372036854775807
  v0 : 0 ≤ v
  v1 : v ≤ 1024 * (k : Int)
  sum : ∃ t : Int, (n : Int) * (u + 18446744073709551616 * t) + v = (z.take k).sum
theorem MeanAt.first (z : List Int) (n : Nat) : MeanAt z n 0 0 0 := ⟨by omega, by omega, by omega, by omega, 0, by simp⟩
theorem wrap64_round (a : Int) : ∃ s : Int, wrap64 a = a + 18446744073709551616 * s ∧ -9223372036854775808 ≤ wrap64 a ∧ wrap64 a ≤ 9223372036854775807 := by
  refine ⟨-((a + 9223372036854775808) / 18446744073709551616), ?_, ?_, ?_⟩
  all_goals simp only [wrap64, IntKind.wrap_i64]; omega
theorem MeanAt.next {z : List Int} {n k : Nat} {u v : Int} (M : MeanAt z n k u v) (hk : k < z.length) (hn : n ≤ 1024) (q r : Int) (e : (n : Int) * q + r = z.getD k 0) (r0 : 0 ≤ r) (r1 : r < n) : MeanAt z n (k + 1) (wrap64 (u + q)) (v + r) := by
  obtain ⟨s, hs, w0, w1⟩ := wrap64_round (u + q)
  obtain ⟨t, ht⟩ := M.sum
  have := M.v0
  have := M.v1
  refine ⟨w0, w1, by omega, by omega, t - s, ?_⟩
  rw [sum_next z k hk, ← ht, ← e, hs]
  have : u + q + 18446744073709551616 * s + 18446744073709551616 * (t - s) = (u + 18446744073709551616 * t) + q := by omega
  rw [this, Int.mul_add]
  omega
theorem MeanAt.last {z : List Int} {n : Nat} {u v : Int} (M : MeanAt z n n u v) (hn : n = z.length) (h0 : 0 < n) (hz : InR z) : max (wrap64 (u + v / (n : Int))) (-9223372036854775807) = meanI z := by
  obtain ⟨t, ht⟩ := M.sum
  subst hn
  rw [List.take_length] at ht
  have S := hz.sum
  have lo : -9223372036854775808 ≤ z.sum / (z.length : Int) := by rw [Int.le_ediv_iff_mul_le (by omega)]; exact S.1
  have hi : z.sum / (z.length : Int) ≤ 9223372036854775807 := by
    apply Int.le_of_lt_add_one
    apply Int.ediv_lt_of_lt_mul (by omega)
    omega
  have hv : meanI z = cutI (z.sum / (z.length : Int)) := by unfold meanI; rw [if_neg (by omega)]
  rw [hv, cutI_max _ hi]
  have hd : z.sum / (z.length : Int) = u + 18446744073709551616 * t + v / (z.length : Int) := by
    rw [← ht, Int.add_comm, Int.add_mul_ediv_left _ _ (by omega)]; omega
  rw [hd] at lo hi ⊢
  obtain ⟨s, hs, w0, w1⟩ := wrap64_round (u + v / (z.length : Int))
  rw [hs] at w0 w1 ⊢
  omega
/-- Go's quotient, which is cut towards 0, and the rest that goes with it. -/
theorem quo_parts (x n : Int) (hn : 0 < n) (x0 : -9223372036854775808 ≤ x) (x1 : x ≤ 9223372036854775807) :
    ∃ T P, x.tdiv n = T ∧ T * n = P ∧ (0 ≤ x → x / n = T) ∧ -9223372036854775808 ≤ T ∧ T ≤ 9223372036854775807 ∧ -9223372036854775808 ≤ P ∧ P ≤ 9223372036854775807 ∧ -n < x - P ∧ x - P < n ∧ (0 ≤ x → 0 ≤ x - P) ∧ (x < 0 → x - P ≤ 0 ∧ P ≤ T) := by
  refine ⟨x.tdiv n, x.tdiv n * n, rfl, rfl, fun h => (Int.tdiv_eq_ediv_of_nonneg h).symm, ?_⟩
  have e := Int.mul_tdiv_add_tmod x n
  rw [Int.mul_comm] at e
  by_cases h : 0 ≤ x
  · have d := Int.tdiv_eq_ediv_of_nonneg (b := n) h
    have d0 := Int.ediv_nonneg h (show 0 ≤ n by omega)
    have d1 := Int.ediv_le_self n h
    have m := Int.tmod_nonneg n h
    have m1 := Int.tmod_lt_of_pos x hn
    have p0 := Int.mul_nonneg d0 (show 0 ≤ n by omega)
    rw [d] at e ⊢
    omega
  · obtain ⟨y, rfl⟩ : ∃ y, x = -y := ⟨-x, by omega⟩
    rw [Int.neg_tdiv, Int.neg_tmod] at e
    rw [Int.neg_tdiv]
    have d := Int.tdiv_eq_ediv_of_nonneg (b := n) (show 0 ≤ y by omega)
    have d0 := Int.ediv_nonneg (show 0 ≤ y by omega) (show 0 ≤ n by omega)
    have d1 := Int.ediv_le_self n (show 0 ≤ y by omega)
    have m := Int.tmod_nonneg n (show 0 ≤ y by omega)
    have m1 := Int.tmod_lt_of_pos y hn
    have p0 := Int.mul_nonneg d0 (show 0 ≤ n by omega)
    have p1 := Int.mul_le_mul_of_nonneg_left (show 1 ≤ n by omega) d0
    rw [d, Int.neg_mul] at e
    rw [d, Int.neg_mul]
    omega
set_option maxHeartbeats 1600000 in
theorem rmean_any (z : List Int) (A : Option Addr) (cap : Nat) (hz : InR z) (hl : z.length ≤ 1024) (w : World) (hr : Ints w A z) :
    Calls Try.prog 49 #[.slice A z.length cap] w fun e w' => e = .returned (.int .i64 (meanI z)) ∧ w = w' := by
  by_cases h0 : z.length = 0
  · obtain rfl := List.eq_nil_of_length_eq_zero h0
    go_enter Try.func49, Try.ntmps49
    go_wp2_with fail
    go_ret
    exact ⟨rfl, rfl⟩
  · rcases hr with rfl | ⟨b, off, rfl, hlt, hc⟩
    · exact absurd rfl h0
    · have hne : ((z.length : Int) == 0) = false := by rw [beq_eq_false_iff_ne]; omega
      have HC := Lib.hid hc
      obtain ⟨n, hn⟩ : ∃ n, z.length = n := ⟨_, rfl⟩
      have HN := Lib.hid hn
      obtain ⟨r, hr⟩ : ∃ r, meanI z = r := ⟨_, rfl⟩
      have HR := Lib.hid hr
      rw [hn] at hne hl h0
      rw [hr, hn]
      clear hc hn hr
      have M0 := MeanAt.first z n
      go_enter Try.func49, Try.ntmps49
      go_wp2_with fail
      go_loop [4, 5, 6] (fun wh re i => ∃ k : Nat, ∃ u v : Int, k ≤ n ∧ i = .int .i64 k ∧ wh = .int .i64 u ∧ re = .int .i64 v ∧ MeanAt z n k u v) (fun _ _ i => n - (intOf i).toNat)
      case atStart => exact ⟨0, 0, 0, Nat.zero_le _, rfl, rfl, rfl, M0⟩
      case round =>
        obtain ⟨k, u, v, hk, rfl, rfl, rfl, M⟩ := hrel
        have u0 := M.u0
        have u1 := M.u1
        have v0 := M.v0
        have v1 := M.v1
        by_cases hk2 : k < n
        · have hk3 : k < z.length := by rw [HN.out]; exact hk2
          obtain ⟨x0, x1⟩ := hz.at_ k hk3
          have c0 := HC.out k hk3
          have N := fun q r => M.next hk3 hl q r
          generalize z.getD k 0 = x at *
          obtain ⟨T, P, hT, hP, hq, T0, T1, P0, P1, b0, b1, b2, b3⟩ := quo_parts x n (by omega) x0 x1
          have hP2 : (n : Int) * T = P := by rw [Int.mul_comm]; exact hP
          by_cases hx : x < 0
          · obtain ⟨b4, b5⟩ := b3 hx
            have N1 := fun (h : x - P < 0) => N (T - 1) (x - P + n) (by rw [Int.mul_sub, hP2]; omega) (by omega) (by omega)
            have N2 := fun (h : ¬ x - P < 0) => N T (x - P) (by rw [hP2]; omega) (by omega) (by omega)
            clear hq b2 b3 N hP2
            by_cases hr : x - P < 0
            · have N3 := N1 hr
              have T2 : -9223372036854775808 < T := by omega
              clear N1 N2
              go_wp2_with fail
              go_round
              case rel => exact ⟨k + 1, _, _, by omega, by go_num, rfl, rfl, N3⟩
              case measure => simp [intOf]; omega
            · have N3 := N2 hr
              clear N1 N2
              go_wp2_with fail
              go_round
              case rel => exact ⟨k + 1, _, _, by omega, by go_num, rfl, rfl, N3⟩
              case measure => simp [intOf]; omega
          · have b4 := b2 (by omega)
            have hq2 := hq (by omega)
            have N3 := N T (x - P) (by rw [hP2]; omega) b4 b1
            clear hq b2 b3 N hP2
            go_wp2_with fail
            go_round
            case rel => exact ⟨k + 1, _, _, by omega, by go_num, rfl, rfl, N3⟩
            case measure => simp [intOf]; omega
        · obtain rfl : k = n := by omega
          have L := Lib.hid (M.last HN.out.symm (by omega) hz)
          go_wp2_with fail
          all_goals go_ret
          all_goals exact ⟨ret1 (by rw [← HR.out, ← L.out]; omega), rfl⟩
end Go.Proofs.Ytefjdmbioclddaa.W
