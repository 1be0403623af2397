/- Floating-point numbers of 64 bits as whole numbers of 2^-1074: rounded down, cut to whole numbers, sums. Nothing of the program is imported. -/
import Derived.Test.YtfangllkfcmefaaGreatFpC
namespace Go.Proofs.YtfangllkfcmefaaGreat.W
set_option linter.unusedVariables false
set_option linter.unusedSimpArgs false
theorem whole_parts (x : Nat) (hx : isF x) : ∃ m up d i : Nat, Ieee.double.read x = .number (neg x) m ((i : Int) - 1074) ∧ ((i : Int) - 1074).toNat = up ∧ (-((i : Int) - 1074)).toNat = d ∧ m < 9007199254740992 ∧ val (rung x) = m * 2 ^ i ∧
    (d = 0 ∨ up = 0) ∧ val (rung x) * 2 ^ d = m * 2 ^ up * pw 1074 := by
  obtain ⟨m, i, e, v, hm, _, _⟩ := read_fin x hx
  refine ⟨m, _, _, i, e, rfl, rfl, hm, v, by omega, ?_⟩
  have h : ∀ u d : Nat, i + d = u + 1074 → 2 ^ i * 2 ^ d = 2 ^ u * pw 1074 := fun u d h => by
    rw [show (2 : Nat) ^ i = pw i from rfl, show (2 : Nat) ^ d = pw d from rfl, show (2 : Nat) ^ u = pw u from rfl, ← pw_add, ← pw_add, h]
  rw [v, Nat.mul_assoc, Nat.mul_assoc, h ((i : Int) - 1074).toNat (-((i : Int) - 1074)).toNat (by omega)]
theorem to_int (x : Nat) (hx : isF x) : (Ieee.double.read x).toInt .zero = some ((V x).tdiv U) := by
  obtain ⟨m, up, d, i, e, hu, hd, hm, v, hc, hv⟩ := whole_parts x hx
  rw [e]
  show some (Ieee.signed (neg x) (Ieee.Toward.zero.cut (neg x) (m <<< ((i : Int) - 1074).toNat) (-((i : Int) - 1074)).toNat) 0) = _
  rw [hu, hd, cut_zero, Nat.shiftLeft_eq, signed_zero]
  congr 1
  have h : m * 2 ^ up / 2 ^ d = val (rung x) / pw 1074 := by
    rw [← Nat.mul_div_mul_right _ _ (pw_pos 1074), ← hv, Nat.mul_comm (2 ^ d), Nat.mul_div_mul_right _ _ (Nat.two_pow_pos d)]
  rw [h]
  unfold V U
  split
  · rw [Int.neg_tdiv, Int.ofNat_tdiv]
  · rw [Int.ofNat_tdiv]
theorem to_int64 (x : Nat) (hx : isF x) (h : -9223372036854775808 * U ≤ V x) (h' : V x < 9223372036854775808 * U) : floatToIntVal .f64 x .i64 = some ((V x).tdiv U) := by
  unfold floatToIntVal
  have e : (FloatKind.f64.decode x).toInt .zero = some ((V x).tdiv U) := to_int x hx
  rw [e]
  have h1 : IntKind.i64.min = -9223372036854775808 := by decide
  have h2 : IntKind.i64.max = 9223372036854775807 := by decide
  simp only [h1, h2]
  have hU : U = (pw 1074 : Int) := rfl
  have hp := pw_pos 1074
  have hb : -9223372036854775808 ≤ (V x).tdiv U ∧ (V x).tdiv U ≤ 9223372036854775807 := by
    unfold V at *
    rw [hU] at h h' ⊢
    generalize pw 1074 = p at *
    generalize val (rung x) = v at *
    split at h <;> rename_i hn
    · rw [if_pos hn]
      rw [Int.neg_tdiv, ← Int.ofNat_tdiv]
      have : v / p ≤ 9223372036854775808 := Nat.div_le_of_le_mul (by rw [Nat.mul_comm]; omega)
      show -9223372036854775808 ≤ -((v / p : Nat) : Int) ∧ -((v / p : Nat) : Int) ≤ 9223372036854775807
      generalize v / p = q at *
      omega
    · rw [if_neg hn]
      rw [if_neg hn] at h'
      rw [← Int.ofNat_tdiv]
      have : v / p < 9223372036854775808 := (Nat.div_lt_iff_lt_mul hp).2 (by omega)
      show -9223372036854775808 ≤ ((v / p : Nat) : Int) ∧ ((v / p : Nat) : Int) ≤ 9223372036854775807
      generalize v / p = q at *
      omega
  rw [if_pos hb]
/-- What Floor gives. -/
theorem floor_spec (x : Nat) (hx : isF x) (h : (V x).natAbs < 9223372036854775808 * pw 1074) :
    isF (Ieee.double.write ((Ieee.double.read x).integral .down)) ∧ Ieee.double.write ((Ieee.double.read x).integral .down) < 18446744073709551616 ∧ V (Ieee.double.write ((Ieee.double.read x).integral .down)) = V x / U * U := by
  obtain ⟨m, up, d, i, e, hu, hd, hm, v, hc, hv⟩ := whole_parts x hx
  rw [e]
  have e2 : Ieee.double.write ((Ieee.Datum.number (neg x) m ((i : Int) - 1074)).integral .down) = Ieee.double.nearest (neg x) (Ieee.Toward.down.cut (neg x) (m <<< ((i : Int) - 1074).toNat) (-((i : Int) - 1074)).toNat) 0 := rfl
  rw [e2, hu, hd, Nat.shiftLeft_eq]
  clear e e2
  have hs := cut_down (neg x) (m * 2 ^ up) d
  generalize hM : Ieee.Toward.down.cut (neg x) (m * 2 ^ up) d = M at hs ⊢
  have hV : V x / U = Ieee.signed (neg x) (m * 2 ^ up) 0 / 2 ^ d := by
    have h1 : V x * 2 ^ d = Ieee.signed (neg x) (m * 2 ^ up) 0 * U := by
      rw [← pow_castF, signed_zero]
      unfold V U
      split
      · rw [Int.neg_mul, Int.neg_mul, ← Int.natCast_mul, ← Int.natCast_mul, hv]
      · rw [← Int.natCast_mul, ← Int.natCast_mul, hv]
    have hp : (0 : Int) < 2 ^ d := Int.pow_pos (by decide)
    rw [← Int.mul_ediv_mul_of_pos_left (V x) U hp, h1, Int.mul_comm U, Int.mul_ediv_mul_of_pos_left _ _ U_pos]
  rw [← hs] at hV
  have hVx := abs_V x
  have hsg : V x = if neg x then -(val (rung x) : Int) else val (rung x) := rfl
  have hMb : M < 9223372036854775809 := by
    have hU := U_pos
    have hUe : U = (pw 1074 : Int) := rfl
    have a1 : V x / U < 9223372036854775808 := Int.ediv_lt_of_lt_mul hU (by rw [hUe]; omega)
    have a2 : -9223372036854775808 ≤ V x / U := (Int.le_ediv_iff_mul_le hU).2 (by rw [hUe]; omega)
    rw [hV, signed_zero] at a1 a2
    split at a1 <;> rename_i hh <;> simp only [hh] at a2 <;> simp at a1 a2 <;> omega
  obtain ⟨ρ, hρ⟩ : ∃ ρ, val ρ = M * pw 1074 := by
    rcases hc with rfl | rfl
    · rw [signed_zero, signed_zero] at hs
      have : M = m * 2 ^ up := by
        simp only [Int.pow_zero, Int.ediv_one] at hs
        split at hs <;> omega
      obtain ⟨ρ, hρ⟩ := rep_pw m (up + 1074) hm
      exact ⟨ρ, by rw [hρ, pw_add, this, Nat.mul_assoc]; rfl⟩
    · have : M ≤ m := by
        rw [signed_zero, signed_zero, ← pow_castF] at hs
        have hp := Nat.two_pow_pos d
        generalize 2 ^ d = t at *
        split at hs
        · have : -(m : Int) ≤ -((m * 2 ^ 0 : Nat) : Int) / t := (Int.le_ediv_iff_mul_le (by omega)).2 (by
            have : (m : Int) * 1 ≤ m * t := Int.mul_le_mul_of_nonneg_left (by omega) (by omega)
            rw [Int.neg_mul]; simp; omega)
          omega
        · have : ((m * 2 ^ 0 : Nat) : Int) / t ≤ m := Int.ediv_le_of_le_mul (by omega) (by
            have : (m : Int) * 1 ≤ m * t := Int.mul_le_mul_of_nonneg_left (by omega) (by omega)
            simp; omega)
          omega
      exact rep_pw M 1074 (by omega)
  have hf : ρ < 9218868437227405312 := lt_inf_of (by
    rw [hρ, show 2098 = 1024 + 1074 by decide, pw_add]
    have := big1024
    exact Nat.mul_lt_mul_of_pos_right (by
      have h := pw_le (a := 64) (b := 1024) (by decide)
      rw [pw64] at h
      omega) (pw_pos _))
  rw [nearest_exact_pw (neg x) M 0 0 1074 ρ (by omega) (by rw [hρ, pw_zero, Nat.mul_one]) (by omega)]
  refine ⟨by unfold isF; rw [rung_word _ _ (by omega)]; exact hf, word_lt64 _ _ (by omega), ?_⟩
  rw [V_word _ _ (by omega), hV, signed_zero, hρ]
  split
  · rw [Int.natCast_mul, Int.neg_mul]; rfl
  · rw [Int.natCast_mul]; rfl
end Go.Proofs.YtfangllkfcmefaaGreat.W
