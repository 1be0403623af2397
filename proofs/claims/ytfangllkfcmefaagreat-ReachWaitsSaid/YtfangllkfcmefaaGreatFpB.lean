/- Floating-point numbers of 64 bits as whole numbers of 2^-1074: their order, products and quotients by 2^32, whole numbers. Nothing of the program is imported. -/
import Derived.Test.YtfangllkfcmefaaGreatFpA
namespace Go.Proofs.YtfangllkfcmefaaGreat.W
set_option linter.unusedVariables false
set_option linter.unusedSimpArgs false
def pw (n : Nat) : Nat := 2 ^ n
theorem pw_pos (n : Nat) : 0 < pw n := Nat.two_pow_pos n
theorem pw_add (a b : Nat) : pw (a + b) = pw a * pw b := Nat.pow_add 2 a b
theorem pw_le {a b : Nat} (h : a ≤ b) : pw a ≤ pw b := Nat.pow_le_pow_right (by decide) h
theorem pw64 : pw 64 = 18446744073709551616 := rfl
theorem nearest_exact_pw (neg : Bool) (mag : Nat) (place : Int) (a b ρ : Nat) (h : (b : Int) - a = place + 1074) (hv : val ρ * pw a = mag * pw b) (hf : ρ ≤ 9218868437227405312) :
    Ieee.double.nearest neg mag place = Ieee.double.word neg ρ := nearest_exact neg mag place a b ρ h hv hf
theorem rep_pw (c k : Nat) (h : c < 9007199254740992) : ∃ r, val r = c * pw k := rep c k h
theorem pw_zero : pw 0 = 1 := rfl
/-- One second, in units of 2^-1074. -/
def U : Int := pw 1074
theorem U_pos : 0 < U := by have := pw_pos 1074; unfold U; omega
def isN (b : Nat) : Prop := rung b ≤ 9218868437227405312
def isF (b : Nat) : Prop := rung b < 9218868437227405312
theorem isF.isN {b : Nat} (h : isF b) : isN b := Nat.le_of_lt h
instance (b : Nat) : Decidable (isN b) := inferInstanceAs (Decidable (_ ≤ _))
instance (b : Nat) : Decidable (isF b) := inferInstanceAs (Decidable (_ < _))
theorem val_inf : val 9218868437227405312 = pw 2098 := by
  obtain ⟨k, hk⟩ : ∃ k, 2046 = k := ⟨_, rfl⟩
  rw [show 2098 = 52 + k by omega, show 9218868437227405312 = k * 4503599627370496 + 4503599627370496 by omega, val_at _ _ (.inr (by decide)) (by decide), pw_add]
  rfl
theorem signed_add (s : Bool) (m u v : Nat) : Ieee.signed s m (u + v) = Ieee.signed s m u * 2 ^ v := by
  unfold Ieee.signed
  rw [Nat.shiftLeft_eq, Nat.shiftLeft_eq, Nat.pow_add, ← Nat.mul_assoc]
  have : (((2 : Nat) ^ v : Nat) : Int) = (2 : Int) ^ v := by rw [Int.natCast_pow]; rfl
  rw [← this]
  split
  · rw [Int.natCast_mul, Int.neg_mul]
  · rw [Int.natCast_mul]
theorem V_signed {b m i : Nat} (h : val (rung b) = m * 2 ^ i) : V b = Ieee.signed (neg b) m i := by
  unfold V Ieee.signed
  rw [h, Nat.shiftLeft_eq]
theorem compare_scale (a b c : Int) (hc : 0 < c) : compare (a * c) (b * c) = compare a b := by
  show compareOfLessAndEq _ _ = compareOfLessAndEq _ _
  unfold compareOfLessAndEq
  have h1 : (a * c < b * c) ↔ a < b := ⟨fun h => Int.lt_of_mul_lt_mul_right h (Int.le_of_lt hc), fun h => Int.mul_lt_mul_of_pos_right h hc⟩
  have h2 : (a * c = b * c) ↔ a = b := ⟨fun h => Int.eq_of_mul_eq_mul_right (by omega) h, fun h => by rw [h]⟩
  simp only [h1, h2]
theorem V_abs_lt {b : Nat} (h : isF b) : V b < (val 9218868437227405312 : Int) ∧ -(val 9218868437227405312 : Int) < V b := by
  have := val_lt h
  unfold V; split <;> omega
theorem order_num {x y : Nat} (hx : isN x) (hy : isN y) : Ieee.double.order x y = some (compare (V x) (V y)) := by
  unfold Ieee.Format.order
  rcases Nat.lt_or_eq_of_le hx with fx | ix
  · obtain ⟨m, i, e, v, _⟩ := read_fin x fx
    rcases Nat.lt_or_eq_of_le hy with fy | iy
    · obtain ⟨n, j, e2, v2, _⟩ := read_fin y fy
      rw [e, e2]
      show some (compare _ _) = _
      rw [V_signed v, V_signed v2]
      obtain ⟨u, hu⟩ : ∃ u, ((i : Int) - 1074 - min ((i : Int) - 1074) ((j : Int) - 1074)).toNat = u := ⟨_, rfl⟩
      obtain ⟨t, ht⟩ : ∃ u, ((j : Int) - 1074 - min ((i : Int) - 1074) ((j : Int) - 1074)).toNat = u := ⟨_, rfl⟩
      obtain ⟨k, hk⟩ : ∃ k, min i j = k := ⟨_, rfl⟩
      obtain rfl : i = u + k := by omega
      obtain rfl : j = t + k := by omega
      rw [hu, ht, signed_add, signed_add, compare_scale _ _ _ (Int.pow_pos (by decide))]
    · rw [e, read_inf y iy]
      have h1 := V_abs_lt fx
      have h2 : V y = if neg y then -(val 9218868437227405312 : Int) else val 9218868437227405312 := by unfold V; rw [iy]
      show some _ = _
      congr 1
      rw [h2]
      cases neg y
      · show Ordering.lt = compareOfLessAndEq _ _
        unfold compareOfLessAndEq; rw [if_pos (by simp; omega)]
      · show Ordering.gt = compareOfLessAndEq _ _
        unfold compareOfLessAndEq; rw [if_neg (by simp; omega), if_neg (by simp; omega)]
  · have h2 : V x = if neg x then -(val 9218868437227405312 : Int) else val 9218868437227405312 := by unfold V; rw [ix]
    rcases Nat.lt_or_eq_of_le hy with fy | iy
    · obtain ⟨n, j, e2, v2, _⟩ := read_fin y fy
      rw [e2, read_inf x ix]
      have h1 := V_abs_lt fy
      show some _ = _
      congr 1
      rw [h2]
      cases neg x
      · show Ordering.gt = compareOfLessAndEq _ _
        unfold compareOfLessAndEq; rw [if_neg (by simp; omega), if_neg (by simp; omega)]
      · show Ordering.lt = compareOfLessAndEq _ _
        unfold compareOfLessAndEq; rw [if_pos (by simp; omega)]
    · rw [read_inf x ix, read_inf y iy]
      have h3 : V y = if neg y then -(val 9218868437227405312 : Int) else val 9218868437227405312 := by unfold V; rw [iy]
      have h4 : 0 < val 9218868437227405312 := by rw [val_inf]; exact pw_pos _
      show some (compare _ _) = _
      congr 1
      rw [h2, h3]
      generalize val 9218868437227405312 = v at *
      have h5 : (0 : Int) < v := by omega
      generalize (v : Int) = z at *
      cases neg x <;> cases neg y
      · show Ordering.eq = compareOfLessAndEq z z
        unfold compareOfLessAndEq; rw [if_neg (by omega), if_pos rfl]
      · show Ordering.gt = compareOfLessAndEq z (-z)
        unfold compareOfLessAndEq; rw [if_neg (by omega), if_neg (by omega)]
      · show Ordering.lt = compareOfLessAndEq (-z) z
        unfold compareOfLessAndEq; rw [if_pos (by omega)]
      · show Ordering.eq = compareOfLessAndEq (-z) (-z)
        unfold compareOfLessAndEq; rw [if_neg (by omega), if_pos rfl]
theorem order_lt {x y : Nat} (hx : isN x) (hy : isN y) (h : V x < V y) : FloatKind.f64.format.order x y = some .lt := by
  show Ieee.double.order x y = _
  rw [order_num hx hy]; congr 1; show compareOfLessAndEq _ _ = _; unfold compareOfLessAndEq; rw [if_pos h]
theorem order_eq {x y : Nat} (hx : isN x) (hy : isN y) (h : V x = V y) : FloatKind.f64.format.order x y = some .eq := by
  show Ieee.double.order x y = _
  rw [order_num hx hy]; congr 1; show compareOfLessAndEq _ _ = _; unfold compareOfLessAndEq; rw [if_neg (by omega), if_pos h]
theorem order_gt {x y : Nat} (hx : isN x) (hy : isN y) (h : V y < V x) : FloatKind.f64.format.order x y = some .gt := by
  show Ieee.double.order x y = _
  rw [order_num hx hy]; congr 1; show compareOfLessAndEq _ _ = _; unfold compareOfLessAndEq; rw [if_neg (by omega), if_neg (by omega)]
theorem order_none {x y : Nat} (h : ¬ isN x ∨ ¬ isN y) : FloatKind.f64.format.order x y = none := by
  show Ieee.double.order x y = _
  unfold Ieee.Format.order
  rcases h with h | h
  · obtain ⟨t, e⟩ := read_nan x (by unfold isN at h; omega)
    rw [e]; rfl
  · obtain ⟨t, e⟩ := read_nan y (by unfold isN at h; omega)
    rw [e]
    cases Ieee.double.read x <;> rfl
theorem abs_V (x : Nat) : (V x).natAbs = val (rung x) := by unfold V; split <;> simp
/-- 2^32. -/
theorem read_c : Ieee.double.read 4751297606875873280 = .number false 4503599627370496 (-20) := by decide +kernel
theorem V_word_scale {x ρ : Nat} {c : Int} (h : (val ρ : Int) = val (rung x) * c) (hr : ρ < 9223372036854775808) : V (Ieee.double.word (neg x) ρ) = V x * c := by
  rw [V_word _ _ hr]; unfold V; split
  · rw [h, Int.neg_mul]
  · exact h
theorem lt_inf_of {r : Nat} (h : val r < pw 2098) : r < 9218868437227405312 := lt_of_val (by rw [val_inf]; exact h)
theorem mul_c {x : Nat} (hx : isF x) (h : (V x).natAbs < 2147483648 * pw 1074) :
    ∃ y, FloatKind.f64.format.mul x 4751297606875873280 = some y ∧ isF y ∧ V y = V x * 4294967296 ∧ y < 18446744073709551616 ∧ neg y = neg x := by
  obtain ⟨m, i, e, v, hm, _, _⟩ := read_fin x hx
  obtain ⟨ρ, hρ⟩ := rep m (i + 32) hm
  have hρ2 : val ρ = val (rung x) * 4294967296 := by rw [hρ, v, Nat.pow_add, Nat.mul_assoc]
  rw [abs_V] at h
  have hf : ρ < 9218868437227405312 := by
    apply lt_inf_of
    rw [hρ2, show 2098 = 1074 + 1024 by decide, pw_add]
    have : (9223372036854775808 : Nat) ≤ pw 1024 := Nat.le_trans (by decide : (9223372036854775808 : Nat) ≤ pw 63) (pw_le (by decide))
    have h2 : pw 1074 * 9223372036854775808 ≤ pw 1074 * pw 1024 := Nat.mul_le_mul_left _ this
    refine Nat.lt_of_lt_of_le ?_ h2
    omega
  refine ⟨Ieee.double.word (neg x) ρ, ?_, ?_, ?_, ?_, ?_⟩
  · show Ieee.double.mul x _ = _
    unfold Ieee.Format.mul
    rw [e, read_c]
    show some (Ieee.double.nearest (neg x ^^ false) (m * 4503599627370496) ((i : Int) - 1074 + -20)) = _
    rw [Bool.xor_false]
    congr 1
    refine nearest_exact _ _ _ 20 i ρ (by omega) ?_ (by omega)
    rw [hρ, Nat.pow_add, Nat.mul_assoc, Nat.mul_assoc, Nat.mul_assoc]
    generalize 2 ^ i = t
    rw [show (2 : Nat) ^ 32 * 2 ^ 20 = 4503599627370496 by decide, Nat.mul_comm t]
  · unfold isF; rw [rung_word _ _ (by omega)]; exact hf
  · exact V_word_scale (c := 4294967296) (by omega) (by omega)
  · exact word_lt64 _ _ (by omega)
  · exact neg_word _ _ (by omega)
end Go.Proofs.YtfangllkfcmefaaGreat.W
