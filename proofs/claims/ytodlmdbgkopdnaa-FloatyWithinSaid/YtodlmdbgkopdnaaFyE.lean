/- The walks of layer 3: Same; the small case. -/
import Derived.Test.YtodlmdbgkopdnaaFyC
namespace Go.Proofs.Ytodlmdbgkopdnaa.W
open Go.RowKit
set_option linter.unusedVariables false
set_option linter.unusedSimpArgs false
theorem same_self (b : Nat) (hb : b < 18446744073709551616) (w : World) : Calls Try.prog 15 #[.float .f64 b, .float .f64 b] w fun e w' => e = .returned (.bool true) ∧ w = w' := by
  have c1 := rkind_any b hb
  by_cases hn : isN b
  · have o1 := order_eq hn hn rfl
    clear hn
    generalize kindI b = k at *
    go_enter Try.func15, Try.ntmps15
    go_wp2_with fail
    (with_reducible refine (c1 _).mono ?_)
    rintro e w' ⟨rfl, rfl⟩
    go_wp2_with fail
    (with_reducible refine (c1 _).mono ?_)
    rintro e w' ⟨rfl, rfl⟩
    go_wp2_with fail
    go_ret
    exact ⟨rfl, rfl⟩
  · have o1 := order_none (x := b) (y := b) (.inl hn)
    have e3 : kindI b = 0 := by
      unfold kindI
      rw [if_pos (Nat.not_le.1 hn)]
    rw [e3] at c1
    clear e3 hn
    go_enter Try.func15, Try.ntmps15
    go_wp2_with fail
    (with_reducible refine (c1 _).mono ?_)
    rintro e w' ⟨rfl, rfl⟩
    go_wp2_with fail
    (with_reducible refine (c1 _).mono ?_)
    rintro e w' ⟨rfl, rfl⟩
    go_wp2_with fail
    (with_reducible refine (c1 _).mono ?_)
    rintro e w' ⟨rfl, rfl⟩
    go_wp2_with fail
    go_ret
    exact ⟨rfl, rfl⟩
theorem V_half : V 4602678819172646912 * 2 = U := by
  have h : Ieee.double.word false 4602678819172646912 = 4602678819172646912 := by rw [word_eq]; rfl
  have hv : val 4602678819172646912 = pw 1073 := by
    obtain ⟨k, hk⟩ : ∃ k, 1021 = k := ⟨_, rfl⟩
    rw [show 4602678819172646912 = k * 4503599627370496 + 4503599627370496 by omega, val_at _ _ (.inr (by decide)) (by decide), show 1073 = 52 + k by omega, pw_add]
    rfl
  have hu : pw 1074 = pw 1073 * 2 := by
    obtain ⟨k, hk⟩ : ∃ k, 1073 = k := ⟨_, rfl⟩
    rw [show 1074 = k + 1 by omega, hk, pw_add]
    rfl
  rw [← h, V_word _ _ (by decide), hv, if_neg (by decide)]
  unfold U
  rw [hu, Int.natCast_mul]
  rfl
theorem of_half : ofV 4602678819172646912 = 2147483648 ∧ ofE 4602678819172646912 = 0 := by
  have hv := V_half
  have hU := U_pos
  have hi : isIn 4602678819172646912 := by rw [isIn_iff]; omega
  refine ⟨?_, ofE_in hi⟩
  unfold ofV
  rw [if_pos hi, show V 4602678819172646912 * 4294967296 = 2147483648 * U by omega, Int.mul_ediv_cancel _ (by omega)]
theorem kshown_any (w : World) : Calls Try.prog 18 #[] w fun e w' => e = .returned (.bool true) ∧ w = w' := by
  have c1 := of_any 4602678819172646912 (by decide)
  rw [of_half.1, of_half.2] at c1
  have c2 := kind_any 4607182418800017408 (by decide)
  rw [show kindI 4607182418800017408 = 5 by decide] at c2
  go_enter Try.func18, Try.ntmps18
  go_wp2_with fail
  (with_reducible refine (c1 _).mono ?_)
  rintro e w' ⟨rfl, rfl⟩
  go_wp2_with fail
  (with_reducible refine (c2 _).mono ?_)
  rintro e w' ⟨rfl, rfl⟩
  go_wp2_with fail
  go_ret
  exact ⟨rfl, rfl⟩
end Go.Proofs.Ytodlmdbgkopdnaa.W
