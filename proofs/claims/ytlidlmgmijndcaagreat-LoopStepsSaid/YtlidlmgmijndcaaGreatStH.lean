/- Layer 10: which fields are faults, as numbers. No program in it. -/
import Derived.Test.YtlidlmgmijndcaaGreatStE
import Derived.Test.YtlidlmgmijndcaaGreatStF
namespace Go.Proofs.YtlidlmgmijndcaaGreat.W
open Go.RowKit
set_option linter.unusedVariables false
/-- A positive number is its rung's size. -/
theorem V_pos {b : Nat} (h : b < 9223372036854775808) : V b = (val b : Int) := by
  have e : Ieee.double.word false b = b := by rw [word_eq]; rfl
  rw [← e, V_word _ _ h, if_neg (by decide), e]
theorem V_lt {a b : Nat} (h : a < b) (hb : b < 9223372036854775808) : V a < V b := by
  rw [V_pos (by omega), V_pos hb]
  have := val_lt h
  omega
theorem V_le {a b : Nat} (h : a ≤ b) (hb : b < 9223372036854775808) : V a ≤ V b := by
  rw [V_pos (by omega), V_pos hb]
  have := val_le h
  omega
/-- What is below 2^31 is so in size. -/
theorem in_pos {b : Nat} (h : b < 4746794007248502784) : isIn b := by
  have h1 := V_lt h (by decide)
  have h2 := V_le (a := 0) (b := b) (Nat.zero_le _) (by omega)
  have h0 : V 0 = 0 := by rw [V_pos (by decide), val_zero]; rfl
  have hU := U_pos
  rw [V_top] at h1
  rw [isIn_iff]
  omega
theorem ofE_pos {b : Nat} (h : b < 4746794007248502784) : ofE b = 0 := ofE_in (in_pos h)
theorem wi_zero {f l h : Nat} (a : l ≤ f) (b : f ≤ h) (c : h < 4746794007248502784) : wiE f l h = 0 := by
  unfold wiE
  have := V_le a (by omega)
  have := V_le b (by omega)
  rw [ofE_pos (b := f) (by omega), ofE_pos (b := l) (by omega), ofE_pos c, if_neg (by omega), if_neg (by omega), if_neg (by omega), if_neg (by omega)]
/-- The other way round. -/
theorem wi_is {f l h : Nat} (e : wiE f l h = 0) : isIn f ∧ V l ≤ V f ∧ V f ≤ V h := by
  unfold wiE at e
  split at e
  · omega
  · rename_i e0
    split at e
    · omega
    · split at e
      · omega
      · split at e
        · cases e
        · exact ⟨(ofE_zero (by omega)).1, by omega, by omega⟩
/-- The size of c * 2^k, where c has 53 bits. -/
theorem val_big {b k c : Nat} (h : b = k * 4503599627370496 + c) (h1 : 4503599627370496 ≤ c) (h2 : c < 9007199254740992) : V b * 1 = (c : Int) * (pw k : Int) ∨ 9223372036854775808 ≤ b := by
  by_cases hb : b < 9223372036854775808
  · left
    rw [V_pos hb, h, val_at k c (.inr h1) (by omega), Int.mul_one, Int.natCast_mul]
    rfl
  · exact .inr (by omega)
theorem V_big {b k c : Nat} (h : b = k * 4503599627370496 + c) (h1 : 4503599627370496 ≤ c) (h2 : c < 9007199254740992) (hb : b < 9223372036854775808) : V b = (c : Int) * (pw k : Int) := by
  rcases val_big h h1 h2 with e | e
  · rw [← e, Int.mul_one]
  · omega
theorem pw_split (k d : Nat) (h : 1074 = d + k) : U = (pw d : Int) * (pw k : Int) := by
  unfold U
  rw [h, pw_add, Int.natCast_mul]
/-- 2^(j - 1074 + 52) seconds, by its rung. -/
theorem ofV_big {b k c d : Nat} (h : b = k * 4503599627370496 + c) (h1 : 4503599627370496 ≤ c) (h2 : c < 9007199254740992) (hb : b < 4746794007248502784) (hd : 1074 = d + k) : ofV b = (c : Int) * 4294967296 / (pw d : Int) := by
  unfold ofV
  rw [if_pos (in_pos hb), V_big h h1 h2 (by omega), pw_split k d hd]
  have hp : (0 : Int) < (pw k : Int) := by have := pw_pos k; omega
  have hq : (0 : Int) < (pw d : Int) := by have := pw_pos d; omega
  rw [show (c : Int) * (pw k : Int) * 4294967296 = (c : Int) * 4294967296 * (pw k : Int) by rw [Int.mul_assoc, Int.mul_comm (pw k : Int), ← Int.mul_assoc]]
  exact Int.mul_ediv_mul_of_pos_left _ _ hp
theorem num0125 : ofV 4593671619917905920 = 536870912 := by
  obtain ⟨k, hk⟩ : ∃ k, 1019 = k := ⟨_, rfl⟩
  rw [ofV_big (k := k) (c := 4503599627370496) (d := 55) (by omega) (by decide) (by decide) (by decide) (by omega)]
  decide
/-- What is standard but for field k. -/
def cfOf (k : Nat) (f : Nat) (n : Int) : Cf :=
   if k = 1 then { stdC with step := f }
  else if k = 2 then { stdC with watch := f }
  else if k = 3 then { stdC with panic := f }
  else if k = 4 then { stdC with maxrate := f }
  else if k = 5 then { stdC with phi := f }
  else if k = 6 then { stdC with maxdist := f }
  else if k = 7 then { stdC with gate := f }
  else if k = 8 then { stdC with minpoll := n }
  else if k = 9 then { stdC with maxpoll := n }
  else if k = 10 then { stdC with burst := n }
  else if k = 11 then { stdC with minsane := n }
  else if k = 12 then { stdC with minleft := n }
  else stdC
theorem std1 : wiE 4593671619917905920 4562254508917369340 4621819117588971520 = 0 := wi_zero (by decide) (by decide) (by decide)
theorem std2 : wiE 4643985272004935680 4607182418800017408 4660134898793709568 = 0 := wi_zero (by decide) (by decide) (by decide)
theorem std3 : wiE 4652007308841189376 4607182418800017408 4681608360884174848 = 0 := wi_zero (by decide) (by decide) (by decide)
theorem std4 : wiE 4557750909289998844 4517329193108106637 4591870180066957722 = 0 := wi_zero (by decide) (by decide) (by decide)
theorem std5 : wiE 4534972062662729065 0 4576918229304087675 = 0 := wi_zero (by decide) (by decide) (by decide)
theorem std6 : wiE 4609434218613702656 4576918229304087675 4625196817309499392 = 0 := wi_zero (by decide) (by decide) (by decide)
theorem std7 : wiE 4616189618054758400 4607182418800017408 4636737291354636288 = 0 := wi_zero (by decide) (by decide) (by decide)
theorem own_std (k : Nat) (f : Nat) (n : Int) (k0 : 1 ≤ k) (k1 : k ≤ 12) (j : Nat) (j0 : 1 ≤ j) (j1 : j ≤ 12) (h : j ≠ k) : ownE (cfOf k f n) j = 0 := by
  have hk : k = 1 ∨ k = 2 ∨ k = 3 ∨ k = 4 ∨ k = 5 ∨ k = 6 ∨ k = 7 ∨ k = 8 ∨ k = 9 ∨ k = 10 ∨ k = 11 ∨ k = 12 := by omega
  have hj : j = 1 ∨ j = 2 ∨ j = 3 ∨ j = 4 ∨ j = 5 ∨ j = 6 ∨ j = 7 ∨ j = 8 ∨ j = 9 ∨ j = 10 ∨ j = 11 ∨ j = 12 := by omega
  rcases hj with rfl | rfl | rfl | rfl | rfl | rfl | rfl | rfl | rfl | rfl | rfl | rfl
  · rw [own_at1]
    rcases hk with rfl | rfl | rfl | rfl | rfl | rfl | rfl | rfl | rfl | rfl | rfl | rfl
    · exact absurd rfl h
    · exact std1
    · exact std1
    · exact std1
    · exact std1
    · exact std1
    · exact std1
    · exact std1
    · exact std1
    · exact std1
    · exact std1
    · exact std1
  · rw [own_at2]
    rcases hk with rfl | rfl | rfl | rfl | rfl | rfl | rfl | rfl | rfl | rfl | rfl | rfl
    · exact std2
    · exact absurd rfl h
    · exact std2
    · exact std2
    · exact std2
    · exact std2
    · exact std2
    · exact std2
    · exact std2
    · exact std2
    · exact std2
    · exact std2
  · rw [own_at3]
    rcases hk with rfl | rfl | rfl | rfl | rfl | rfl | rfl | rfl | rfl | rfl | rfl | rfl
    · exact std3
    · exact std3
    · exact absurd rfl h
    · exact std3
    · exact std3
    · exact std3
    · exact std3
    · exact std3
    · exact std3
    · exact std3
    · exact std3
    · exact std3
  · rw [own_at4]
    rcases hk with rfl | rfl | rfl | rfl | rfl | rfl | rfl | rfl | rfl | rfl | rfl | rfl
    · exact std4
    · exact std4
    · exact std4
    · exact absurd rfl h
    · exact std4
    · exact std4
    · exact std4
    · exact std4
    · exact std4
    · exact std4
    · exact std4
    · exact std4
  · rw [own_at5]
    rcases hk with rfl | rfl | rfl | rfl | rfl | rfl | rfl | rfl | rfl | rfl | rfl | rfl
    · exact std5
    · exact std5
    · exact std5
    · exact std5
    · exact absurd rfl h
    · exact std5
    · exact std5
    · exact std5
    · exact std5
    · exact std5
    · exact std5
    · exact std5
  · rw [own_at6]
    rcases hk with rfl | rfl | rfl | rfl | rfl | rfl | rfl | rfl | rfl | rfl | rfl | rfl
    · exact std6
    · exact std6
    · exact std6
    · exact std6
    · exact std6
    · exact absurd rfl h
    · exact std6
    · exact std6
    · exact std6
    · exact std6
    · exact std6
    · exact std6
  · rw [own_at7]
    rcases hk with rfl | rfl | rfl | rfl | rfl | rfl | rfl | rfl | rfl | rfl | rfl | rfl
    · exact std7
    · exact std7
    · exact std7
    · exact std7
    · exact std7
    · exact std7
    · exact absurd rfl h
    · exact std7
    · exact std7
    · exact std7
    · exact std7
    · exact std7
  · rw [own_at8]
    rcases hk with rfl | rfl | rfl | rfl | rfl | rfl | rfl | rfl | rfl | rfl | rfl | rfl
    · rfl
    · rfl
    · rfl
    · rfl
    · rfl
    · rfl
    · rfl
    · exact absurd rfl h
    · rfl
    · rfl
    · rfl
    · rfl
  · rw [own_at9]
    rcases hk with rfl | rfl | rfl | rfl | rfl | rfl | rfl | rfl | rfl | rfl | rfl | rfl
    · rfl
    · rfl
    · rfl
    · rfl
    · rfl
    · rfl
    · rfl
    · rfl
    · exact absurd rfl h
    · rfl
    · rfl
    · rfl
  · rw [own_at10]
    rcases hk with rfl | rfl | rfl | rfl | rfl | rfl | rfl | rfl | rfl | rfl | rfl | rfl
    · rfl
    · rfl
    · rfl
    · rfl
    · rfl
    · rfl
    · rfl
    · rfl
    · rfl
    · exact absurd rfl h
    · rfl
    · rfl
  · rw [own_at11]
    rcases hk with rfl | rfl | rfl | rfl | rfl | rfl | rfl | rfl | rfl | rfl | rfl | rfl
    · rfl
    · rfl
    · rfl
    · rfl
    · rfl
    · rfl
    · rfl
    · rfl
    · rfl
    · rfl
    · exact absurd rfl h
    · rfl
  · rw [own_at12]
    rcases hk with rfl | rfl | rfl | rfl | rfl | rfl | rfl | rfl | rfl | rfl | rfl | rfl
    · rfl
    · rfl
    · rfl
    · rfl
    · rfl
    · rfl
    · rfl
    · rfl
    · rfl
    · rfl
    · rfl
    · exact absurd rfl h
theorem std_order : ¬ V 4652007308841189376 ≤ V 4593671619917905920 := by
  have := V_lt (a := 4593671619917905920) (b := 4652007308841189376) (by decide) (by decide)
  omega
/-- Which field may be a fault. -/
theorem one_fault (k : Nat) (f : Nat) (n : Int) (k0 : 1 ≤ k) (k1 : k ≤ 12) : ∃ q, 1 ≤ q ∧ q ≤ 12 ∧ (q = k ∨ (k = 8 ∧ q = 9)) ∧ ∀ j, 1 ≤ j → j ≤ 12 → j ≠ q → fieldE (cfOf k f n) j = 0 := by
  have hk : k = 1 ∨ k = 2 ∨ k = 3 ∨ k = 4 ∨ k = 5 ∨ k = 6 ∨ k = 7 ∨ k = 8 ∨ k = 9 ∨ k = 10 ∨ k = 11 ∨ k = 12 := by omega
  have h3 : k ≠ 3 → ¬ (ownE (cfOf k f n) 1 = 0 ∧ V (cfOf k f n).panic ≤ V (cfOf k f n).step) := by
    rintro hne ⟨h1, h2⟩
    by_cases e : k = 1
    · subst e
      rw [own_at1] at h1
      have b := (wi_is h1).2.2
      have c := V_lt (a := 4621819117588971520) (b := 4652007308841189376) (by decide) (by decide)
      have d : V 4652007308841189376 ≤ V f := h2
      have b' : V f ≤ V 4621819117588971520 := b
      omega
    · refine std_order ?_
      have d : (cfOf k f n).panic = 4652007308841189376 ∧ (cfOf k f n).step = 4593671619917905920 := by
        rcases hk with rfl | rfl | rfl | rfl | rfl | rfl | rfl | rfl | rfl | rfl | rfl | rfl <;> first | exact ⟨rfl, rfl⟩ | exact absurd rfl hne | exact absurd rfl e
      rw [d.1, d.2] at h2
      exact h2
  have h9 : k ≠ 9 → k ≠ 8 → ¬ (cfOf k f n).maxpoll < (cfOf k f n).minpoll := by
    intro hne hne8
    have d : (cfOf k f n).maxpoll = 10 ∧ (cfOf k f n).minpoll = 6 := by
      rcases hk with rfl | rfl | rfl | rfl | rfl | rfl | rfl | rfl | rfl | rfl | rfl | rfl <;> first | exact ⟨rfl, rfl⟩ | exact absurd rfl hne | exact absurd rfl hne8
    rw [d.1, d.2]
    decide
  by_cases h8 : k = 8 ∧ ownE (cfOf k f n) 8 = 0
  · refine ⟨9, by decide, by decide, .inr ⟨h8.1, rfl⟩, fun j j0 j1 hj => ?_⟩
    have ho : ownE (cfOf k f n) j = 0 := by
      by_cases e : j = 8
      · rw [e]
        exact h8.2
      · exact own_std k f n k0 k1 j j0 j1 (by omega)
    unfold fieldE
    rw [if_neg (by omega), if_neg (fun h => h3 (by omega) h.2), if_neg (by omega)]
  · refine ⟨k, k0, k1, .inl rfl, fun j j0 j1 hj => ?_⟩
    have ho := own_std k f n k0 k1 j j0 j1 hj
    unfold fieldE
    rw [if_neg (by omega), if_neg (fun h => h3 (by omega) h.2), if_neg (fun h => ?_)]
    by_cases e : k = 8
    · exact h8 ⟨e, h.2.1⟩
    · exact h9 (by omega) e h.2.2
theorem upTo_one {c : Cf} {q : Nat} (h : ∀ j, 1 ≤ j → j ≤ 12 → j ≠ q → fieldE c j = 0) (q0 : 1 ≤ q) (m : Nat) (hm : m ≤ 12) : upTo c m = if fieldE c q ≠ 0 ∧ q ≤ m then [(q : Int)] else [] := by
  induction m with
  | zero => rw [if_neg (by omega)]; rfl
  | succ m ih =>
    rw [upTo_next, ih (by omega)]
    by_cases e : m + 1 = q
    · rw [e, if_neg (show ¬ (fieldE c q ≠ 0 ∧ q ≤ m) by omega)]
      by_cases z : fieldE c q = 0
      · rw [if_pos z, if_neg (by omega)]
      · rw [if_neg z, if_pos ⟨z, Nat.le_refl _⟩]
        simp
        omega
    · rw [if_pos (h (m + 1) (by omega) (by omega) e)]
      by_cases z : fieldE c q ≠ 0 ∧ q ≤ m
      · rw [if_pos z, if_pos ⟨z.1, by omega⟩]
      · rw [if_neg z, if_neg (by omega)]
theorem one_upTo (k : Nat) (f : Nat) (n : Int) (k0 : 1 ≤ k) (k1 : k ≤ 12) : upTo (cfOf k f n) 12 = [] ∨ ∃ q : Nat, upTo (cfOf k f n) 12 = [(q : Int)] ∧ (q = k ∨ (k = 8 ∧ q = 9)) := by
  obtain ⟨q, q0, q1, hq, h⟩ := one_fault k f n k0 k1
  have := upTo_one h q0 12 (Nat.le_refl _)
  by_cases z : fieldE (cfOf k f n) q ≠ 0 ∧ q ≤ 12
  · rw [if_pos z] at this
    exact .inr ⟨q, this, hq⟩
  · rw [if_neg z] at this
    exact .inl this
theorem std_none : upTo stdC 12 = [] := by
  rcases one_upTo 1 4593671619917905920 0 (by decide) (by decide) with h | ⟨q, h, hq⟩
  · exact h
  · have e : cfOf 1 4593671619917905920 0 = stdC := rfl
    rw [e] at h
    obtain rfl : q = 1 := by omega
    have hm : ((1 : Nat) : Int) ∈ upTo stdC 12 := by rw [h]; exact List.mem_singleton.2 rfl
    unfold upTo at hm
    obtain ⟨k, hk, hk1⟩ := List.mem_map.1 hm
    have hk2 : k = 1 := by omega
    have hf := (List.mem_filter.1 hk).2
    rw [hk2] at hf
    have z : fieldE stdC 1 = 0 := by
      unfold fieldE
      rw [own_at1, show wiE stdC.step 4562254508917369340 4621819117588971520 = 0 from std1, if_neg (by decide), if_neg (by omega), if_neg (by omega)]
    rw [z] at hf
    cases hf
end Go.Proofs.YtlidlmgmijndcaaGreat.W
