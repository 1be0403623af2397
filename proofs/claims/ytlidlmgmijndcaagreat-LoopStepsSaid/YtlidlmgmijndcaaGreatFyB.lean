import Derived.Test.YtlidlmgmijndcaaGreatRows
import Derived.Test.YtlidlmgmijndcaaGreatChecked
import Derived.Test.YtlidlmgmijndcaaGreatFpD
import Derived.WalkKit
import Derived.WalkSpells
import Derived.WalkLawsBesides
import Derived.Laws.Externs
import Derived.Lib.Zigzag
import Derived.BigQuiet
import Derived.Deep.QuietTactic
import Derived.Below
/- The walks of layer 3: bits, kinds. -/
namespace Go.Proofs.YtlidlmgmijndcaaGreat.W
open Go.RowKit
set_option linter.unusedVariables false
set_option linter.unusedSimpArgs false
theorem run_bits (b : Nat) (w : World) : (callFunc 100 #[.float .f64 b]).run Tryz.prog w = .ok (.value (.int .u64 b)) w := by
  rw [run_callFunc_extern Tryz.func100 (by kernel_rfl) (by kernel_rfl) (by kernel_rfl) (e := Extern.MathFloatBits.float64bits) (by kernel_rfl)]
  rfl
theorem and_sign (b : Nat) (hb : b < 18446744073709551616) : bits .and .u64 b 9223372036854775808 = if neg b then 9223372036854775808 else 0 := by
  have h : bits .and .u64 b 9223372036854775808 = IntKind.u64.wrap ((b &&& 2 ^ 63 : Nat) : Int) := by
    have e1 : (BitVec.ofInt 64 (b : Int)).toNat = b := by simp [BitVec.toNat_ofInt]; omega
    have e2 : (BitVec.ofInt 64 9223372036854775808).toNat = 2 ^ 63 := by decide
    show IntKind.u64.wrap ((BitVec.ofInt 64 (b : Int) &&& BitVec.ofInt 64 9223372036854775808).toNat : Int) = _
    rw [BitVec.toNat_and, e1, e2]
  rw [h, IntKind.wrap_u64]
  have ht : b.testBit 63 = neg b := by
    rw [Nat.testBit_eq_decide_div_mod_eq, show (2 : Nat) ^ 63 = 9223372036854775808 by decide]
    unfold neg
    rw [Bool.eq_iff_iff]; simp
  have e : b &&& 2 ^ 63 = if neg b then 2 ^ 63 else 0 := by
    apply Nat.eq_of_testBit_eq
    intro i
    rw [Nat.testBit_and, Nat.testBit_two_pow]
    by_cases hi : 63 = i
    · subst hi
      rw [ht]
      cases neg b
      · rfl
      · rw [if_pos rfl, Nat.testBit_two_pow]; rfl
    · rw [decide_eq_false hi, Bool.and_false]
      cases neg b
      · rw [if_neg (by decide)]; simp
      · rw [if_pos rfl, Nat.testBit_two_pow, decide_eq_false hi]
  rw [e]
  cases neg b <;> decide
theorem andNot_sign (b : Nat) (hb : b < 18446744073709551616) : bits .andNot .u64 b 9223372036854775808 = rung b := by
  have h : bits .andNot .u64 b 9223372036854775808 = IntKind.u64.wrap ((b &&& 2 ^ 63 - 1 : Nat) : Int) := by
    have e1 : (BitVec.ofInt 64 (b : Int)).toNat = b := by simp [BitVec.toNat_ofInt]; omega
    have e2 : (~~~(BitVec.ofInt 64 9223372036854775808)).toNat = 2 ^ 63 - 1 := by decide
    show IntKind.u64.wrap ((BitVec.ofInt 64 (b : Int) &&& ~~~(BitVec.ofInt 64 9223372036854775808)).toNat : Int) = _
    rw [BitVec.toNat_and, e1, e2]
  rw [h, Nat.and_two_pow_sub_one_eq_mod, IntKind.wrap_u64]
  unfold rung
  rw [show (2 : Nat) ^ 63 = 9223372036854775808 by decide]
  omega
/-- What a word is: 0 no number, 1 and 2 infinite, 3 and 4 nought, 5 and 6 others. -/
def kindI (b : Nat) : Int :=
  if 9218868437227405312 < rung b then 0 else if rung b = 9218868437227405312 then (if neg b then 2 else 1) else if rung b = 0 then (if neg b then 4 else 3) else (if neg b then 6 else 5)
theorem side_any (s : Bool) (a b : Int) (w : World) : Calls Tryz.prog 101 #[.bool s, .int .i64 a, .int .i64 b] w fun e w' => e = .returned (.int .i64 (if s then b else a)) ∧ w = w' := by
  cases s
  · go_enter Tryz.func101, Tryz.ntmps101
    go_wp2
    all_goals (go_ret; exact ⟨rfl, rfl⟩)
  · go_enter Tryz.func101, Tryz.ntmps101
    go_wp2
    all_goals (go_ret; exact ⟨rfl, rfl⟩)
theorem isNaN_any (b : Nat) (w : World) : Calls Tryz.prog 99 #[.float .f64 b] w fun e w' => e = .returned (.bool (decide (¬ isN b))) ∧ w = w' := by
  by_cases h : isN b
  · have ho := order_eq h h rfl
    go_enter Tryz.func99, Tryz.ntmps99
    go_wp2
    all_goals (go_ret; refine ⟨?_, rfl⟩; first | (simp [h]; done) | skip)
  · have ho := order_none (x := b) (y := b) (.inl h)
    go_enter Tryz.func99, Tryz.ntmps99
    go_wp2
    all_goals (go_ret; refine ⟨?_, rfl⟩; first | (simp [h]; done) | skip)
theorem kind_any (b : Nat) (hb : b < 18446744073709551616) (w : World) : Calls Tryz.prog 97 #[.float .f64 b] w fun e w' => e = .returned (.int .i64 (kindI b)) ∧ w = w' := by
  have hr := run_bits b
  have c1 := isNaN_any b
  have h1 := and_sign b hb
  have h2 := andNot_sign b hb
  unfold kindI
  by_cases hn : isN b
  · rw [if_neg (Nat.not_lt.2 hn)]
    rw [show decide (¬ isN b) = false by simpa using hn] at c1
    have hi' : ¬ (rung b = 9218868437227405312) → ¬ (rung b : Int) = 9218868437227405312 := by omega
    have hz' : ¬ (rung b = 0) → ¬ (rung b : Int) = 0 := by omega
    have c2 := side_any
    have key : ∀ (s : Bool) (r : Nat), neg b = s → rung b = r → (r = 9218868437227405312 ∨ r = 0 ∨ (¬ (r : Int) = 9218868437227405312 ∧ ¬ (r : Int) = 0)) → bits .and .u64 (b : Int) 9223372036854775808 = (if s then 9223372036854775808 else 0) → bits .andNot .u64 (b : Int) 9223372036854775808 = (r : Int) →
        Calls Tryz.prog 97 #[.float .f64 b] w fun e w' => e = .returned (.int .i64 (if r = 9218868437227405312 then (if s then 2 else 1) else if r = 0 then (if s then 4 else 3) else (if s then 6 else 5))) ∧ w = w' := by
      clear h1 h2 hi' hz' hn
      intro s r _ _ hr3 h1 h2
      rcases hr3 with rfl | rfl | ⟨hi, hz⟩
      · have h2' : bits .andNot .u64 (b : Int) 9223372036854775808 = 9218868437227405312 := h2
        clear h2
        rw [if_pos rfl]
        cases s <;> simp only [if_true, if_false, Bool.false_eq_true] at h1 ⊢
        · have c2 := side_any false 1 2
          go_enter Tryz.func97, Tryz.ntmps97
          go_wp2_with fail
          (with_reducible refine (c1 _).mono ?_)
          rintro e w' ⟨rfl, rfl⟩
          go_wp2_with fail
          (with_reducible refine (c2 _).mono ?_)
          rintro e w' ⟨rfl, rfl⟩
          go_wp2_with fail
          go_ret
          exact ⟨rfl, rfl⟩
        · have c2 := side_any true 1 2
          go_enter Tryz.func97, Tryz.ntmps97
          go_wp2_with fail
          (with_reducible refine (c1 _).mono ?_)
          rintro e w' ⟨rfl, rfl⟩
          go_wp2_with fail
          (with_reducible refine (c2 _).mono ?_)
          rintro e w' ⟨rfl, rfl⟩
          go_wp2_with fail
          go_ret
          exact ⟨rfl, rfl⟩
      · have h2' : bits .andNot .u64 (b : Int) 9223372036854775808 = 0 := h2
        clear h2
        rw [if_neg (by decide), if_pos rfl]
        cases s <;> simp only [if_true, if_false, Bool.false_eq_true] at h1 ⊢
        · have c2 := side_any false 3 4
          go_enter Tryz.func97, Tryz.ntmps97
          go_wp2_with fail
          (with_reducible refine (c1 _).mono ?_)
          rintro e w' ⟨rfl, rfl⟩
          go_wp2_with fail
          (with_reducible refine (c2 _).mono ?_)
          rintro e w' ⟨rfl, rfl⟩
          go_wp2_with fail
          go_ret
          exact ⟨rfl, rfl⟩
        · have c2 := side_any true 3 4
          go_enter Tryz.func97, Tryz.ntmps97
          go_wp2_with fail
          (with_reducible refine (c1 _).mono ?_)
          rintro e w' ⟨rfl, rfl⟩
          go_wp2_with fail
          (with_reducible refine (c2 _).mono ?_)
          rintro e w' ⟨rfl, rfl⟩
          go_wp2_with fail
          go_ret
          exact ⟨rfl, rfl⟩
      · rw [if_neg (by omega), if_neg (by omega)]
        cases s <;> simp only [if_true, if_false, Bool.false_eq_true] at h1 ⊢
        · have c2 := side_any false 5 6
          go_enter Tryz.func97, Tryz.ntmps97
          go_wp2_with fail
          (with_reducible refine (c1 _).mono ?_)
          rintro e w' ⟨rfl, rfl⟩
          go_wp2_with fail
          (with_reducible refine (c2 _).mono ?_)
          rintro e w' ⟨rfl, rfl⟩
          go_wp2_with fail
          go_ret
          exact ⟨rfl, rfl⟩
        · have c2 := side_any true 5 6
          go_enter Tryz.func97, Tryz.ntmps97
          go_wp2_with fail
          (with_reducible refine (c1 _).mono ?_)
          rintro e w' ⟨rfl, rfl⟩
          go_wp2_with fail
          (with_reducible refine (c2 _).mono ?_)
          rintro e w' ⟨rfl, rfl⟩
          go_wp2_with fail
          go_ret
          exact ⟨rfl, rfl⟩
    exact key _ _ rfl rfl (by omega) h1 h2
  · rw [if_pos (Nat.not_le.1 hn)]
    rw [show decide (¬ isN b) = true by simpa using hn] at c1
    go_enter Tryz.func97, Tryz.ntmps97
    go_wp2_with fail
    (with_reducible refine (c1 _).mono ?_)
    rintro e w' ⟨rfl, rfl⟩
    go_wp2_with fail
    go_ret
    exact ⟨rfl, rfl⟩
end Go.Proofs.YtlidlmgmijndcaaGreat.W

/- The walks of layer 3: what comes of a floating-point number. -/
namespace Go.Proofs.YtlidlmgmijndcaaGreat.W
open Go.RowKit
set_option linter.unusedVariables false
set_option linter.unusedSimpArgs false
theorem run_floor (b : Nat) (h : isF b) (w : World) : (callFunc 102 #[.float .f64 b]).run Tryz.prog w = .ok (.value (.float .f64 (Ieee.double.write ((Ieee.double.read b).integral .down)))) w := by
  rw [run_callFunc_extern Tryz.func102 (by kernel_rfl) (by kernel_rfl) (by kernel_rfl) (e := Extern.MathFloor.toIntegral "math.archFloor" .down) (by kernel_rfl)]
  obtain ⟨m, i, e, _⟩ := read_fin b h
  have e2 : FloatKind.f64.decode b = .number (neg b) m ((i : Int) - 1074) := e
  have h : Extern.MathFloor.toIntegral "math.archFloor" .down #[.float .f64 b] = pure (.float .f64 (FloatKind.f64.encode (Ieee.Datum.integral .down (.number (neg b) m ((i : Int) - 1074))))) := by
    conv => lhs; whnf
    rw [e2]
  rw [h, e]
  rfl
theorem floor_any (b : Nat) (h : isF b) (w : World) : Calls Tryz.prog 98 #[.float .f64 b] w fun e w' => e = .returned (.float .f64 (Ieee.double.write ((Ieee.double.read b).integral .down))) ∧ w = w' := by
  have hr := run_floor b h
  generalize Ieee.double.write ((Ieee.double.read b).integral .down) = y at *
  go_enter Tryz.func98, Tryz.ntmps98
  go_wp2
  all_goals (go_ret; exact ⟨rfl, rfl⟩)
/-- Numbers that have room as 2^-32 seconds. -/
def isIn (b : Nat) : Prop := (V b).natAbs < 2147483648 * pw 1074
instance (b : Nat) : Decidable (isIn b) := inferInstanceAs (Decidable (_ < _))
def ofV (b : Nat) : Int := if isIn b then V b * 4294967296 / U else 0
def ofE (b : Nat) : Int := if 9218868437227405312 < rung b then 30 else if rung b = 9218868437227405312 then 31 else if isIn b then 0 else 32
theorem isIn.isF {b : Nat} (h : isIn b) : isF b := by
  unfold isIn at h
  rw [abs_V] at h
  refine lt_inf_of (Nat.lt_of_lt_of_le h ?_)
  rw [show 2098 = 1024 + 1074 by decide, pw_add]
  have := big1024
  exact Nat.mul_le_mul_right _ (by omega)
theorem V_top : V 4746794007248502784 = 2147483648 * U := by
  have h : Ieee.double.word false 4746794007248502784 = 4746794007248502784 := by rw [word_eq]; rfl
  have hv : val 4746794007248502784 = 2147483648 * pw 1074 := by
    obtain ⟨k, hk⟩ : ∃ k, 1053 = k := ⟨_, rfl⟩
    rw [show 4746794007248502784 = k * 4503599627370496 + 4503599627370496 by omega, val_at _ _ (.inr (by decide)) (by decide), show 1074 = 21 + k by omega, pw_add, ← Nat.mul_assoc]
    rfl
  rw [← h, V_word _ _ (by decide), hv, if_neg (by decide), Int.natCast_mul]
  rfl
theorem V_foot : V 13970166044103278592 = -2147483648 * U := by
  have h : Ieee.double.word true 4746794007248502784 = 13970166044103278592 := by rw [word_eq]; rfl
  have hv := V_top
  have h2 : Ieee.double.word false 4746794007248502784 = 4746794007248502784 := by rw [word_eq]; rfl
  rw [← h2, V_word _ _ (by decide), if_neg (by decide)] at hv
  rw [← h, V_word _ _ (by decide), if_pos rfl, hv, Int.neg_mul]
theorem isIn_iff (b : Nat) : isIn b ↔ -2147483648 * U < V b ∧ V b < 2147483648 * U := by
  unfold isIn
  have : U = (pw 1074 : Int) := rfl
  rw [this]
  omega
theorem ofV_bounds (b : Nat) : -9223372036854775808 ≤ ofV b ∧ ofV b ≤ 9223372036854775807 := by
  unfold ofV
  split
  · rename_i h
    obtain ⟨h1, h2⟩ := (isIn_iff b).1 h
    have a := (Int.le_ediv_iff_mul_le (a := -9223372036854775808) (b := V b * 4294967296) U_pos).2 (by omega)
    have c := Int.ediv_lt_of_lt_mul (a := V b * 4294967296) (b := 9223372036854775808) U_pos (by omega)
    omega
  · omega
/-- The steps of Of, for what has room. -/
theorem of_steps (b : Nat) (h : isIn b) : ∃ g y, floatBits .mul .f64 b 4751297606875873280 = some g ∧ isF g ∧ V g = V b * 4294967296 ∧ y = Ieee.double.write ((Ieee.double.read g).integral .down) ∧ floatToIntVal .f64 y .i64 = some (ofV b) := by
  obtain ⟨g, hg, fg, vg, _⟩ := mul_c h.isF h
  have hb : (V g).natAbs < 9223372036854775808 * pw 1074 := by
    unfold isIn at h
    rw [vg, Int.natAbs_mul]
    show (V b).natAbs * 4294967296 < _
    omega
  obtain ⟨f1, f2, f3⟩ := floor_spec g fg hb
  refine ⟨g, _, hg, fg, vg, rfl, ?_⟩
  have hU := U_pos
  have hd : V g / U = ofV b := by unfold ofV; rw [if_pos h, vg]
  obtain ⟨q1, q2⟩ := ofV_bounds b
  rw [to_int64 _ f1 (by rw [f3, hd]; exact Int.mul_le_mul_of_nonneg_right q1 (Int.le_of_lt hU)) (by rw [f3, hd]; exact Int.mul_lt_mul_of_pos_right (by omega) hU), f3, Int.mul_tdiv_cancel _ (by omega), hd]
theorem isN_consts : isN 13970166044103278592 ∧ isN 4746794007248502784 ∧ isN 0 ∧ isF 0 := by decide
theorem run_mul (b g : Nat) (h : floatBits .mul .f64 b 4751297606875873280 = some g) (t : TypeId) (w : World) : (binOp .mul t (.float .f64 b) (.float .f64 4751297606875873280)).run Tryz.prog w = .ok (.float .f64 g) w := run_float_arith w .mul t .f64 b _ g h
theorem run_trunc (y : Nat) (n : Int) (h : floatToIntVal .f64 y .i64 = some n) (w : World) : (convert 50 2 (.float .f64 y)).run Tryz.prog w = .ok (.int .i64 n) w :=
  run_convert_float_int w 50 2 .f64 .i64 y n (by rw [Tryz.underlying50]; rfl) Tryz.underlying2 h
theorem kindI_fin {b : Nat} (h : isF b) : ¬ kindI b = 0 ∧ ¬ kindI b = 1 ∧ ¬ kindI b = 2 := by
  have h1 : ¬ 9218868437227405312 < rung b := by unfold isF at h; omega
  have h2 : ¬ rung b = 9218868437227405312 := by unfold isF at h; omega
  unfold kindI
  rw [if_neg h1, if_neg h2]
  split <;> split <;> decide
/-- How a number stands to the limits. -/
theorem limits (b : Nat) (h : isF b) :
    (isIn b ∧ FloatKind.f64.format.order b 13970166044103278592 = some .gt ∧ FloatKind.f64.format.order b 4746794007248502784 = some .lt) ∨
    (¬ isIn b ∧ (FloatKind.f64.format.order b 13970166044103278592 = some .lt ∨ FloatKind.f64.format.order b 13970166044103278592 = some .eq)) ∨
    (¬ isIn b ∧ FloatKind.f64.format.order b 13970166044103278592 = some .gt ∧ (FloatKind.f64.format.order b 4746794007248502784 = some .gt ∨ FloatKind.f64.format.order b 4746794007248502784 = some .eq)) := by
  have hU := U_pos
  obtain ⟨n1, n2, _⟩ := isN_consts
  rw [isIn_iff]
  rcases Int.lt_trichotomy (V b) (-2147483648 * U) with g | g | g
  · exact .inr (.inl ⟨by omega, .inl (order_lt h.isN n1 (by rw [V_foot]; exact g))⟩)
  · exact .inr (.inl ⟨by omega, .inr (order_eq h.isN n1 (by rw [V_foot]; exact g))⟩)
  · have o1 := order_gt h.isN n1 (by rw [V_foot]; exact g)
    rcases Int.lt_trichotomy (V b) (2147483648 * U) with k | k | k
    · exact .inl ⟨⟨g, k⟩, o1, order_lt h.isN n2 (by rw [V_top]; exact k)⟩
    · exact .inr (.inr ⟨by omega, o1, .inr (order_eq h.isN n2 (by rw [V_top]; exact k))⟩)
    · exact .inr (.inr ⟨by omega, o1, .inl (order_gt h.isN n2 (by rw [V_top]; exact k))⟩)
set_option maxHeartbeats 1600000 in
theorem of_any (b : Nat) (hb : b < 18446744073709551616) (w : World) : Calls Tryz.prog 96 #[.float .f64 b] w fun e w' => e = .returned (.tuple #[.int .i64 (ofV b), .int .i64 (ofE b)]) ∧ w = w' := by
  have c1 := kind_any b hb
  by_cases hn : isN b
  · by_cases hi : rung b = 9218868437227405312
    · have e1 : ofV b = 0 := by
        unfold ofV
        rw [if_neg (fun h => by have := h.isF; unfold isF at this; omega)]
      have e2 : ofE b = 31 := by
        unfold ofE
        rw [if_neg (by omega), if_pos hi]
      have e3 : kindI b = 1 ∨ kindI b = 2 := by
        unfold kindI
        rw [if_neg (by omega), if_pos hi]
        cases neg b
        · exact .inl rfl
        · exact .inr rfl
      rw [e1, e2]
      clear e1 e2 hn hi
      rcases e3 with e3 | e3
      · rw [e3] at c1
        go_enter Tryz.func96, Tryz.ntmps96
        go_wp2_with fail
        (with_reducible refine (c1 _).mono ?_)
        rintro e w' ⟨rfl, rfl⟩
        go_wp2_with fail
        go_ret2
        exact ⟨rfl, rfl⟩
      · rw [e3] at c1
        go_enter Tryz.func96, Tryz.ntmps96
        go_wp2_with fail
        (with_reducible refine (c1 _).mono ?_)
        rintro e w' ⟨rfl, rfl⟩
        go_wp2_with fail
        go_ret2
        exact ⟨rfl, rfl⟩
    · have hf : isF b := by unfold isN at hn; unfold isF; omega
      obtain ⟨k0, k1, k2⟩ := kindI_fin hf
      generalize kindI b = k at *
      have e2 : ofE b = if isIn b then 0 else 32 := by
        unfold ofE
        rw [if_neg (by unfold isN at hn; omega), if_neg hi]
      have hk := limits b hf
      clear hf hn hi
      rcases hk with ⟨h, o1, o2⟩ | ⟨h, o⟩ | ⟨h, o1, o⟩
      · obtain ⟨g, y, hg, fg, vg, hy, ht⟩ := of_steps b h
        rw [if_pos h] at e2
        rw [e2]
        have r1 := run_mul b g hg
        have r2 := run_trunc y _ ht
        have c2 := floor_any g fg
        rw [← hy] at c2
        clear hg fg hy ht e2 vg h
        generalize ofV b = n at *
        go_enter Tryz.func96, Tryz.ntmps96
        go_wp2_with fail
        (with_reducible refine (c1 _).mono ?_)
        rintro e w' ⟨rfl, rfl⟩
        go_wp2_with fail
        (with_reducible refine (c2 _).mono ?_)
        rintro e w' ⟨rfl, rfl⟩
        go_wp2_with fail
        go_ret2
        exact ⟨rfl, rfl⟩
      · rw [if_neg h] at e2
        have e1 : ofV b = 0 := by unfold ofV; rw [if_neg h]
        rw [e1, e2]
        clear e1 e2 h
        rcases o with o1 | o1
        · go_enter Tryz.func96, Tryz.ntmps96
          go_wp2_with fail
          (with_reducible refine (c1 _).mono ?_)
          rintro e w' ⟨rfl, rfl⟩
          go_wp2_with fail
          go_ret2
          exact ⟨rfl, rfl⟩
        · go_enter Tryz.func96, Tryz.ntmps96
          go_wp2_with fail
          (with_reducible refine (c1 _).mono ?_)
          rintro e w' ⟨rfl, rfl⟩
          go_wp2_with fail
          go_ret2
          exact ⟨rfl, rfl⟩
      · rw [if_neg h] at e2
        have e1 : ofV b = 0 := by unfold ofV; rw [if_neg h]
        rw [e1, e2]
        clear e1 e2 h
        rcases o with o2 | o2
        · go_enter Tryz.func96, Tryz.ntmps96
          go_wp2_with fail
          (with_reducible refine (c1 _).mono ?_)
          rintro e w' ⟨rfl, rfl⟩
          go_wp2_with fail
          go_ret2
          exact ⟨rfl, rfl⟩
        · go_enter Tryz.func96, Tryz.ntmps96
          go_wp2_with fail
          (with_reducible refine (c1 _).mono ?_)
          rintro e w' ⟨rfl, rfl⟩
          go_wp2_with fail
          go_ret2
          exact ⟨rfl, rfl⟩
  · have e1 : ofV b = 0 := by
      unfold ofV
      rw [if_neg (fun h => hn h.isF.isN)]
    have e2 : ofE b = 30 := by
      unfold ofE
      rw [if_pos (Nat.not_le.1 hn)]
    have e3 : kindI b = 0 := by
      unfold kindI
      rw [if_pos (Nat.not_le.1 hn)]
    rw [e1, e2]
    rw [e3] at c1
    clear e1 e2 e3
    go_enter Tryz.func96, Tryz.ntmps96
    go_wp2_with fail
    (with_reducible refine (c1 _).mono ?_)
    rintro e w' ⟨rfl, rfl⟩
    go_wp2_with fail
    go_ret2
    exact ⟨rfl, rfl⟩
end Go.Proofs.YtlidlmgmijndcaaGreat.W

