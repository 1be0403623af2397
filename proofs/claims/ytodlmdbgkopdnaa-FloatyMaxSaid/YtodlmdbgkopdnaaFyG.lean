/- The walks of layer 3: the greatest of many. -/
import Derived.Test.YtodlmdbgkopdnaaFyF
import Derived.Handy
import Derived.Lib.Hide
namespace Go.Proofs.Ytodlmdbgkopdnaa.W
open Go.RowKit
set_option linter.unusedVariables false
set_option linter.unusedSimpArgs false
/-- A number's place among all others. -/
def rankI (b : Nat) : Int := if neg b then 18446744073709551615 - b else (b : Int) + 9223372036854775808
theorem not_word (x : Int) (h0 : 0 ≤ x) (h1 : x < 18446744073709551616) : bits .xor .u64 IntKind.u64.max x = 18446744073709551615 - x := by
  obtain ⟨n, rfl⟩ := Int.eq_ofNat_of_zero_le h0
  have e : IntKind.u64.max = ((2 ^ 64 - 1 : Nat) : Int) := by decide
  have b : n < 2 ^ 64 := by omega
  rw [e, bits_xor_u64_nat _ _ (by omega) (by omega), Lib.xor_ones64 n b]; omega
theorem rank_any (b : Nat) (hb : b < 18446744073709551616) (w : World) : Calls Try.prog 25 #[.float .f64 b] w fun e w' => e = .returned (.int .u64 (rankI b)) ∧ w = w' := by
  have hr := run_bits b
  have h1 := and_sign b hb
  cases hs : neg b
  · have hlt : b < 9223372036854775808 := by
      unfold neg at hs
      rw [beq_eq_false_iff_ne] at hs
      omega
    have h2 := or_sign b hlt
    rw [hs, if_neg (by decide)] at h1
    have e : rankI b = (b : Int) + 9223372036854775808 := by unfold rankI; rw [hs, if_neg (by decide)]
    rw [e]
    clear e hs
    go_enter Try.func25, Try.ntmps25
    go_wp2
    all_goals (go_ret; exact ⟨rfl, rfl⟩)
  · have h2 := not_word (b : Int) (by omega) (by omega)
    rw [hs, if_pos rfl] at h1
    have e : rankI b = 18446744073709551615 - b := by unfold rankI; rw [hs, if_pos rfl]
    rw [e]
    clear e hs
    go_enter Try.func25, Try.ntmps25
    go_wp2
    all_goals (go_ret; exact ⟨rfl, rfl⟩)
/-- Of two numbers the one with the greater rank is greater, or is nought without a sign. -/
theorem rank_lt (a b : Nat) (ha : a < 18446744073709551616) (hb : b < 18446744073709551616) : rankI a < rankI b ↔ (V a < V b ∨ (rung a = 0 ∧ rung b = 0 ∧ neg a = true ∧ neg b = false)) := by
  have ea := of_parts a ha
  have eb := of_parts b hb
  rw [word_eq] at ea eb
  have la := rung_lt a
  have lb := rung_lt b
  unfold rankI V
  have v1 : ∀ {x y : Nat}, x < y → val x < val y := fun h => val_lt h
  have v2 : ∀ {x y : Nat}, val x < val y → x < y := fun h => lt_of_val h
  have z1 : ∀ {x : Nat}, 0 < x → 0 < val x := fun h => by have := val_lt h; rw [val_zero] at this; exact this
  have z2 := val_zero
  cases hs : neg a <;> cases ht : neg b <;> simp only [hs, ht, if_true, if_false, Bool.false_eq_true] at ea eb ⊢
  · constructor
    · intro h; left; have := v1 (x := rung a) (y := rung b) (by omega); omega
    · rintro (h | h)
      · have := v2 (x := rung a) (y := rung b) (by omega); omega
      · simp at h
  · constructor
    · intro h; omega
    · rintro (h | h)
      · omega
      · simp at h
  · constructor
    · intro h
      by_cases h0 : rung a = 0
      · by_cases h1 : rung b = 0
        · right; simp [h0, h1]
        · left; have := z1 (x := rung b) (by omega); omega
      · left; have := z1 (x := rung a) (by omega); omega
    · intro h; omega
  · constructor
    · intro h; left; have := v1 (x := rung b) (y := rung a) (by omega); omega
    · rintro (h | h)
      · have := v2 (x := rung b) (y := rung a) (by omega); omega
      · simp at h
/-- One step of Max: the greatest one so far, and whether there is one. -/
def maxS (s : Nat × Bool) (f : Nat) : Nat × Bool := if isN f then (if s.2 = false ∨ rankI s.1 < rankI f then (f, true) else s) else s
def maxI (z : List Nat) : Nat × Bool := z.foldl maxS (0, false)
theorem maxI_next (z : List Nat) (k : Nat) (hk : k < z.length) : maxI (z.take (k + 1)) = maxS (maxI (z.take k)) (z.getD k 0) := by
  unfold maxI
  rw [List.take_succ_eq_append_getElem hk, List.foldl_append, List.getD_eq_getElem?_getD, List.getElem?_eq_getElem hk]
  rfl
theorem maxI_bound (z : List Nat) (h : ∀ b ∈ z, b < 18446744073709551616) : (maxI z).1 < 18446744073709551616 ∧ isN (maxI z).1 := by
  unfold maxI
  suffices ∀ s : Nat × Bool, s.1 < 18446744073709551616 ∧ isN s.1 → (z.foldl maxS s).1 < 18446744073709551616 ∧ isN (z.foldl maxS s).1 from this _ ⟨by decide, by decide⟩
  induction z with
  | nil => intro s hs; exact hs
  | cons x z ih =>
    intro s hs
    rw [List.foldl_cons]
    refine ih (fun b hb => h b (List.mem_cons_of_mem _ hb)) _ ?_
    unfold maxS
    split
    · split
      · rename_i hn _; exact ⟨h x List.mem_cons_self, hn⟩
      · exact hs
    · exact hs
end Go.Proofs.Ytodlmdbgkopdnaa.W
