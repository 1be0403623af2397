/- The walks of layer 3: bits, kinds. -/
import Derived.Test.YtjelbpibofngiaaRows
import Derived.Test.YtjelbpibofngiaaChecked
import Derived.Test.YtjelbpibofngiaaFpD
import Derived.WalkKit
import Derived.WalkSpells
import Derived.WalkLawsBesides
import Derived.Laws.Externs
import Derived.Lib.Zigzag
import Derived.BigQuiet
import Derived.Deep.QuietTactic
import Derived.Below
namespace Go.Proofs.Ytjelbpibofngiaa.W
open Go.RowKit
set_option linter.unusedVariables false
set_option linter.unusedSimpArgs false
theorem run_bits (b : Nat) (w : World) : (callFunc 77 #[.float .f64 b]).run Try.prog w = .ok (.value (.int .u64 b)) w := by
  rw [run_callFunc_extern Try.func77 (by kernel_rfl) (by kernel_rfl) (by kernel_rfl) (e := Extern.MathFloatBits.float64bits) (by kernel_rfl)]
  rfl
theorem and_sign (b : Nat) (hb : b < 18446744073709551616) : bits .and .u64 b 9223372036854775808 = if neg b then 9223372036854775808 else 0 := by
  have h : bits .and .u64 b 9223372036854775808 = IntKind.u64.wrap ((b &&& 2 ^ 63 : Nat) : Int) := by
    have e1 : (BitVec.ofInt 64 (b : Int)).toNat = b := by simp [BitVec.toNat_ofInt]; omega
    have e2 : (BitVec.ofInt 64 9223372036854775808).toNat = 2 ^ 63 := by decide
    show IntKind.u64.wrap ((BitVec.ofInt 64 (b : Int) &&& BitVec.ofInt 64 9223372036854775808).toNat : Int) = _
    rw [BitVec.toNat_and, e1, e2]
  rw [h, IntKind.wrap_u64]
  have ht : b.testBit 63 = neg b := by
    rw [Nat.testBit_eq_decide_div_mod_eq, show (2 : Nat) ^ 63 = 9223372036854775808 by decide]
    unfold neg
    rw [Bool.eq_iff_iff]; simp
  have e : b &&& 2 ^ 63 = if neg b then 2 ^ 63 else 0 := by
    apply Nat.eq_of_testBit_eq
    intro i
    rw [Nat.testBit_and, Nat.testBit_two_pow]
    by_cases hi : 63 = i
    · subst hi
      rw [ht]
      cases neg b
      · rfl
      · rw [if_pos rfl, Nat.testBit_two_pow]; rfl
    · rw [decide_eq_false hi, Bool.and_false]
      cases neg b
      · rw [if_neg (by decide)]; simp
      · rw [if_pos rfl, Nat.testBit_two_pow, decide_eq_false hi]
  rw [e]
  cases neg b <;> decide
theorem andNot_sign (b : Nat) (hb : b < 18446744073709551616) : bits .andNot .u64 b 9223372036854775808 = rung b := by
  have h : bits .andNot .u64 b 9223372036854775808 = IntKind.u64.wrap ((b &&& 2 ^ 63 - 1 : Nat) : Int) := by
    have e1 : (BitVec.ofInt 64 (b : Int)).toNat = b := by simp [BitVec.toNat_ofInt]; omega
    have e2 : (~~~(BitVec.ofInt 64 9223372036854775808)).toNat = 2 ^ 63 - 1 := by decide
    show IntKind.u64.wrap ((BitVec.ofInt 64 (b : Int) &&& ~~~(BitVec.ofInt 64 9223372036854775808)).toNat : Int) = _
    rw [BitVec.toNat_and, e1, e2]
  rw [h, Nat.and_two_pow_sub_one_eq_mod, IntKind.wrap_u64]
  unfold rung
  rw [show (2 : Nat) ^ 63 = 9223372036854775808 by decide]
  omega
/-- What a word is: 0 no number, 1 and 2 infinite, 3 and 4 nought, 5 and 6 others. -/
def kindI (b : Nat) : Int :=
  if 9218868437227405312 < rung b then 0 else if rung b = 9218868437227405312 then (if neg b then 2 else 1) else if rung b = 0 then (if neg b then 4 else 3) else (if neg b then 6 else 5)
theorem side_any (s : Bool) (a b : Int) (w : World) : Calls Try.prog 78 #[.bool s, .int .i64 a, .int .i64 b] w fun e w' => e = .returned (.int .i64 (if s then b else a)) ∧ w = w' := by
  cases s
  · go_enter Try.func78, Try.ntmps78
    go_wp2
    all_goals (go_ret; exact ⟨rfl, rfl⟩)
  · go_enter Try.func78, Try.ntmps78
    go_wp2
    all_goals (go_ret; exact ⟨rfl, rfl⟩)
theorem isNaN_any (b : Nat) (w : World) : Calls Try.prog 76 #[.float .f64 b] w fun e w' => e = .returned (.bool (decide (¬ isN b))) ∧ w = w' := by
  by_cases h : isN b
  · have ho := order_eq h h rfl
    go_enter Try.func76, Try.ntmps76
    go_wp2
    all_goals (go_ret; refine ⟨?_, rfl⟩; first | (simp [h]; done) | skip)
  · have ho := order_none (x := b) (y := b) (.inl h)
    go_enter Try.func76, Try.ntmps76
    go_wp2
    all_goals (go_ret; refine ⟨?_, rfl⟩; first | (simp [h]; done) | skip)
theorem kind_any (b : Nat) (hb : b < 18446744073709551616) (w : World) : Calls Try.prog 69 #[.float .f64 b] w fun e w' => e = .returned (.int .i64 (kindI b)) ∧ w = w' := by
  have hr := run_bits b
  have c1 := isNaN_any b
  have h1 := and_sign b hb
  have h2 := andNot_sign b hb
  unfold kindI
  by_cases hn : isN b
  · rw [if_neg (Nat.not_lt.2 hn)]
    rw [show decide (¬ isN b) = false by simpa using hn] at c1
    have hi' : ¬ (rung b = 9218868437227405312) → ¬ (rung b : Int) = 9218868437227405312 := by omega
    have hz' : ¬ (rung b = 0) → ¬ (rung b : Int) = 0 := by omega
    have c2 := side_any
    have key : ∀ (s : Bool) (r : Nat), neg b = s → rung b = r → (r = 9218868437227405312 ∨ r = 0 ∨ (¬ (r : Int) = 9218868437227405312 ∧ ¬ (r : Int) = 0)) → bits .and .u64 (b : Int) 9223372036854775808 = (if s then 9223372036854775808 else 0) → bits .andNot .u64 (b : Int) 9223372036854775808 = (r : Int) →
        Calls Try.prog 69 #[.float .f64 b] w fun e w' => e = .returned (.int .i64 (if r = 9218868437227405312 then (if s then 2 else 1) else if r = 0 then (if s then 4 else 3) else (if s then 6 else 5))) ∧ w = w' := by
      clear h1 h2 hi' hz' hn
      intro s r _ _ hr3 h1 h2
      rcases hr3 with rfl | rfl | ⟨hi, hz⟩
      · have h2' : bits .andNot .u64 (b : Int) 9223372036854775808 = 9218868437227405312 := h2
        clear h2
        rw [if_pos rfl]
        cases s <;> simp only [if_true, if_false, Bool.false_eq_true] at h1 ⊢
        · have c2 := side_any false 1 2
          go_enter Try.func69, Try.ntmps69
          go_wp2_with fail
          (with_reducible refine (c1 _).mono ?_)
          rintro e w' ⟨rfl, rfl⟩
          go_wp2_with fail
          (with_reducible refine (c2 _).mono ?_)
          rintro e w' ⟨rfl, rfl⟩
          go_wp2_with fail
          go_ret
          exact ⟨rfl, rfl⟩
        · have c2 := side_any true 1 2
          go_enter Try.func69, Try.ntmps69
          go_wp2_with fail
          (with_reducible refine (c1 _).mono ?_)
          rintro e w' ⟨rfl, rfl⟩
          go_wp2_with fail
          (with_reducible refine (c2 _).mono ?_)
          rintro e w' ⟨rfl, rfl⟩
          go_wp2_with fail
          go_ret
          exact ⟨rfl, rfl⟩
      · have h2' : bits .andNot .u64 (b : Int) 9223372036854775808 = 0 := h2
        clear h2
        rw [if_neg (by decide), if_pos rfl]
        cases s <;> simp only [if_true, if_false, Bool.false_eq_true] at h1 ⊢
        · have c2 := side_any false 3 4
          go_enter Try.func69, Try.ntmps69
          go_wp2_with fail
          (with_reducible refine (c1 _).mono ?_)
          rintro e w' ⟨rfl, rfl⟩
          go_wp2_with fail
          (with_reducible refine (c2 _).mono ?_)
          rintro e w' ⟨rfl, rfl⟩
          go_wp2_with fail
          go_ret
          exact ⟨rfl, rfl⟩
        · have c2 := side_any true 3 4
          go_enter Try.func69, Try.ntmps69
          go_wp2_with fail
          (with_reducible refine (c1 _).mono ?_)
          rintro e w' ⟨rfl, rfl⟩
          go_wp2_with fail
          (with_reducible refine (c2 _).mono ?_)
          rintro e w' ⟨rfl, rfl⟩
          go_wp2_with fail
          go_ret
          exact ⟨rfl, rfl⟩
      · rw [if_neg (by omega), if_neg (by omega)]
        cases s <;> simp only [if_true, if_false, Bool.false_eq_true] at h1 ⊢
        · have c2 := side_any false 5 6
          go_enter Try.func69, Try.ntmps69
          go_wp2_with fail
          (with_reducible refine (c1 _).mono ?_)
          rintro e w' ⟨rfl, rfl⟩
          go_wp2_with fail
          (with_reducible refine (c2 _).mono ?_)
          rintro e w' ⟨rfl, rfl⟩
          go_wp2_with fail
          go_ret
          exact ⟨rfl, rfl⟩
        · have c2 := side_any true 5 6
          go_enter Try.func69, Try.ntmps69
          go_wp2_with fail
          (with_reducible refine (c1 _).mono ?_)
          rintro e w' ⟨rfl, rfl⟩
          go_wp2_with fail
          (with_reducible refine (c2 _).mono ?_)
          rintro e w' ⟨rfl, rfl⟩
          go_wp2_with fail
          go_ret
          exact ⟨rfl, rfl⟩
    exact key _ _ rfl rfl (by omega) h1 h2
  · rw [if_pos (Nat.not_le.1 hn)]
    rw [show decide (¬ isN b) = true by simpa using hn] at c1
    go_enter Try.func69, Try.ntmps69
    go_wp2_with fail
    (with_reducible refine (c1 _).mono ?_)
    rintro e w' ⟨rfl, rfl⟩
    go_wp2_with fail
    go_ret
    exact ⟨rfl, rfl⟩
end Go.Proofs.Ytjelbpibofngiaa.W
