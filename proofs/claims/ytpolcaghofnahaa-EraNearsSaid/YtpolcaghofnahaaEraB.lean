/- The document's own answers of layer 4, walked. -/
import Derived.Test.YtpolcaghofnahaaEraA
import Derived.Test.YtpolcaghofnahaaFixF
import Derived.Lib.Hide
namespace Go.Proofs.Ytpolcaghofnahaa.W
open Go.RowKit
set_option linter.unusedVariables false
set_option linter.unusedSimpArgs false
set_option maxHeartbeats 800000 in
theorem rdf_any (a b : Int) (h : 0 ≤ a) (h' : a < 18446744073709551616) (g : 0 ≤ b) (g' : b < 18446744073709551616) (w : World) :
    Calls Try.prog 13 #[.int .u64 a, .int .u64 b] w fun e w' => e = .returned (.int .i64 (dfI a b)) ∧ w = w' := by
  obtain ⟨d, hd⟩ : ∃ d, (a - b) % 18446744073709551616 = d := ⟨_, rfl⟩
  obtain ⟨f, hf⟩ : ∃ f, (b - a) % 18446744073709551616 = f := ⟨_, rfl⟩
  have e1 : IntKind.u64.wrap (a - b) = d := by rw [IntKind.wrap_u64, hd]
  have e2 : IntKind.u64.wrap (b - a) = f := by rw [IntKind.wrap_u64, hf]
  obtain ⟨d0, d1⟩ : 0 ≤ d ∧ d < 18446744073709551616 := by omega
  obtain ⟨f0, f1⟩ : 0 ≤ f ∧ f < 18446744073709551616 := by omega
  have hv : dfI a b = if d = 9223372036854775808 then -9223372036854775807 else if d < 9223372036854775808 then d else d - 18446744073709551616 := by unfold dfI; rw [hd]
  have hdf : d = 0 ∨ f = 18446744073709551616 - d := by omega
  rw [hv]
  clear hv hd hf
  by_cases hh : d < 9223372036854775808
  · go_enter Try.func13, Try.ntmps13
    go_wp2_with fail
    go_ret
    exact ⟨ret1 (by (try simp only [wrap64, wrap32, IntKind.wrap_u64, IntKind.wrap_i64, IntKind.wrap_u32, IntKind.wrap_i32, IntKind.wrap_u8, IntKind.wrap_u16]) <;> omega), rfl⟩
  · have c1 := rcut_is true f false (if d = 9223372036854775808 then -9223372036854775807 else if d < 9223372036854775808 then d else d - 18446744073709551616) f0 f1 (by simp only [restI, isB, cutI, if_true, if_false, Bool.false_eq_true]; omega)
    generalize (if d = 9223372036854775808 then -9223372036854775807 else if d < 9223372036854775808 then d else d - 18446744073709551616) = v at *
    go_enter Try.func13, Try.ntmps13
    go_wp2_with fail
    (with_reducible refine (c1 _).mono ?_)
    rintro e w1 ⟨rfl, rfl⟩
    go_wp2_with fail
    go_ret
    exact ⟨rfl, rfl⟩
set_option maxHeartbeats 800000 in
theorem rpl_any (a d : Int) (h : 0 ≤ a) (h' : a < 18446744073709551616) (g : -9223372036854775808 ≤ d) (g' : d ≤ 9223372036854775807) (w : World) :
    Calls Try.prog 15 #[.int .u64 a, .int .i64 d] w fun e w' => e = .returned (.int .u64 (plI a d)) ∧ w = w' := by
  by_cases hd : 0 ≤ d
  all_goals
    go_enter Try.func15, Try.ntmps15
    go_wp2
    go_ret
    exact ⟨ret1 (by unfold plI; (try simp only [wrap64, wrap32, IntKind.wrap_u64, IntKind.wrap_i64, IntKind.wrap_u32, IntKind.wrap_i32, IntKind.wrap_u8, IntKind.wrap_u16]) <;> omega), rfl⟩
set_option maxHeartbeats 800000 in
theorem rlong_any (n : Int) (h : 0 ≤ n) (h' : n < 4294967296) (w : World) :
    Calls Try.prog 19 #[.int .u32 n] w fun e w' => e = .returned (.int .i64 (n * 65536)) ∧ w = w' := by
  go_enter Try.func19, Try.ntmps19
  go_wp2
  go_ret
  exact ⟨ret1 (by (try simp only [wrap64, wrap32, IntKind.wrap_u64, IntKind.wrap_i64, IntKind.wrap_u32, IntKind.wrap_i32, IntKind.wrap_u8, IntKind.wrap_u16]) <;> omega), rfl⟩
set_option maxHeartbeats 800000 in
theorem rsh_any (a : Int) (h : -9223372036854775808 ≤ a) (h' : a ≤ 9223372036854775807) (w : World) :
    Calls Try.prog 17 #[.int .i64 a] w fun e w' => e = .returned (.int .u32 (shI a)) ∧ w = w' := by
  by_cases hz : a ≤ 0
  · go_enter Try.func17, Try.ntmps17
    go_wp2
    go_ret
    exact ⟨ret1 (by unfold shI; (try simp only [wrap64, wrap32, IntKind.wrap_u64, IntKind.wrap_i64, IntKind.wrap_u32, IntKind.wrap_i32, IntKind.wrap_u8, IntKind.wrap_u16]) <;> omega), rfl⟩
  · go_enter Try.func17, Try.ntmps17
    go_wp2
    all_goals go_ret
    all_goals exact ⟨ret1 (by unfold shI; (try simp only [wrap64, wrap32, IntKind.wrap_u64, IntKind.wrap_i64, IntKind.wrap_u32, IntKind.wrap_i32, IntKind.wrap_u8, IntKind.wrap_u16]) <;> omega), rfl⟩
theorem tmod_out (b : Int) : -4294967296 < b.tmod 4294967296 ∧ b.tmod 4294967296 < 4294967296 ∧ ∃ k, b = k * 4294967296 + b.tmod 4294967296 := by
  have h := Int.mul_tdiv_add_tmod b 4294967296
  refine ⟨?_, ?_, b.tdiv 4294967296, by omega⟩
  · have := Int.tmod_lt_of_pos (-b) (show (0 : Int) < 4294967296 by decide)
    rw [Int.neg_tmod] at this
    omega
  · exact Int.tmod_lt_of_pos b (by decide)
set_option maxHeartbeats 3200000 in
theorem rnear_any (s b : Int) (h : 0 ≤ s) (h' : s < 4294967296) (g : -9223372036854775808 ≤ b) (g' : b ≤ 9223372036854775807) (w : World) :
    Calls Try.prog 22 #[.int .u32 s, .int .i64 b] w fun e w' => e = .returned (.int .i64 (nearI s b)) ∧ Below w.heap.size w w' := by
  by_cases h1 : -4611686018427387904 < b ∧ b < 4611686018427387904
  · obtain ⟨h1, h2⟩ := h1
    obtain ⟨t1, t2, k, hk⟩ := tmod_out b
    have hv : nearI s b = b + ((s - b.tmod 4294967296 + 2147483648) % 4294967296 - 2147483648) := by unfold nearI abI; omega
    obtain ⟨v, hv'⟩ : ∃ v, nearI s b = v := ⟨_, rfl⟩
    rw [hv']
    rw [hv'] at hv
    have HV := Lib.hid hv
    clear hv hv'
    obtain ⟨u, hu0⟩ : ∃ u, b.tmod 4294967296 = u := ⟨_, rfl⟩
    rw [hu0] at t1 t2 HV
    clear hk
    by_cases hu : 0 ≤ u
    · have hc : s - u < -2147483648 ∨ (-2147483648 ≤ s - u ∧ s - u < 2147483648) ∨ 2147483648 ≤ s - u := by omega
      rcases hc with hc | hc | hc
      all_goals
        go_enter Try.func22, Try.ntmps22
        go_wp2
        refine wp_loop_rounds 3 ?_
        rw [rounds_succ]
        go_wp2
        all_goals
          rw [rounds_succ]
          go_wp2
          all_goals
            rw [rounds_succ]
            go_wp2
            all_goals go_ret
            all_goals exact ⟨ret1 (by have := HV.out; omega), by repeat' (first | (with_reducible exact Below.refl _ _) | (with_reducible assumption) | (with_reducible refine below_drewN ?_ _) | (with_reducible refine Below.drew ?_) | (with_reducible refine Below.setCell ?_ ?_ _) | (with_reducible refine Below.alloc ?_ ?_ _) | (simp; done) | (simp; omega) | omega)⟩
    · have hc : s - u - 4294967296 < -2147483648 ∨ (-2147483648 ≤ s - u - 4294967296 ∧ s - u - 4294967296 < 2147483648) ∨ 2147483648 ≤ s - u - 4294967296 := by omega
      rcases hc with hc | hc | hc
      all_goals
        go_enter Try.func22, Try.ntmps22
        go_wp2
        refine wp_loop_rounds 3 ?_
        rw [rounds_succ]
        go_wp2
        all_goals
          rw [rounds_succ]
          go_wp2
          all_goals
            rw [rounds_succ]
            go_wp2
            all_goals go_ret
            all_goals exact ⟨ret1 (by have := HV.out; omega), by repeat' (first | (with_reducible exact Below.refl _ _) | (with_reducible assumption) | (with_reducible refine below_drewN ?_ _) | (with_reducible refine Below.drew ?_) | (with_reducible refine Below.setCell ?_ ?_ _) | (with_reducible refine Below.alloc ?_ ?_ _) | (simp; done) | (simp; omega) | omega)⟩
  · have hb : (b < -4611686018427387904 ∨ b = -4611686018427387904) ∨ (4611686018427387904 < b ∨ b = 4611686018427387904) := by omega
    have hs : s < 2147483648 ∨ 2147483648 ≤ s := by omega
    obtain ⟨v, hv⟩ : ∃ v, nearI s b = v := ⟨_, rfl⟩
    rw [hv]
    unfold nearI abI at hv
    rcases hb with hb | hb
    · have hv2 : v = if s < 2147483648 then -4611686018427387904 + s else -4611686018427387904 + s - 4294967296 := by omega
      have HV := Lib.hid hv2
      clear hv hv2 h1
      rcases hb with hb | rfl <;> rcases hs with hs | hs
      all_goals
        go_enter Try.func22, Try.ntmps22
        go_wp2
        refine wp_loop_rounds 3 ?_
        rw [rounds_succ]
        go_wp2
        all_goals
          rw [rounds_succ]
          go_wp2
          all_goals
            rw [rounds_succ]
            go_wp2
            all_goals go_ret
            all_goals exact ⟨ret1 (by have := HV.out; omega), by repeat' (first | (with_reducible exact Below.refl _ _) | (with_reducible assumption) | (with_reducible refine below_drewN ?_ _) | (with_reducible refine Below.drew ?_) | (with_reducible refine Below.setCell ?_ ?_ _) | (with_reducible refine Below.alloc ?_ ?_ _) | (simp; done) | (simp; omega) | omega)⟩
    · have hv2 : v = if s < 2147483648 then 4611686018427387904 + s else 4611686018427387904 + s - 4294967296 := by omega
      have HV := Lib.hid hv2
      clear hv hv2 h1
      rcases hb with hb | rfl <;> rcases hs with hs | hs
      all_goals
        go_enter Try.func22, Try.ntmps22
        go_wp2
        refine wp_loop_rounds 3 ?_
        rw [rounds_succ]
        go_wp2
        all_goals
          rw [rounds_succ]
          go_wp2
          all_goals
            rw [rounds_succ]
            go_wp2
            all_goals go_ret
            all_goals exact ⟨ret1 (by have := HV.out; omega), by repeat' (first | (with_reducible exact Below.refl _ _) | (with_reducible assumption) | (with_reducible refine below_drewN ?_ _) | (with_reducible refine Below.drew ?_) | (with_reducible refine Below.setCell ?_ ?_ _) | (with_reducible refine Below.alloc ?_ ?_ _) | (simp; done) | (simp; omega) | omega)⟩
/-- The least place at which a power is not below a. -/
theorem pow_place (j : Nat) (h : j ≤ 62) : shiftI 4294967296 (-32 + (j : Int)) = 2 ^ j := by
  have : ∀ j : Nat, j < 63 → shiftI 4294967296 (-32 + (j : Int)) = 2 ^ j := by decide +kernel
  exact this j (by omega)
theorem prec_at (a : Int) (j : Nat) (hj : j ≤ 63) (lo : ∀ i : Nat, i < j → (2 : Int) ^ i < a) (hi : j = 63 ∨ a ≤ 2 ^ j) (g' : a ≤ 9223372036854775807) : precI a = -32 + (j : Int) := by
  unfold precI
  by_cases h0 : j = 0
  · subst h0
    have : a ≤ 1 := by simpa using hi
    rw [logI_zero _ (by omega)]
    rfl
  · have l := lo (j - 1) (by omega)
    have hp := pow_pos2 (j - 1)
    rw [show max a 1 - 1 = a - 1 by omega]
    rw [logI_of (a - 1) (by omega) j ?_ ?_]
    · omega
    · rcases hi with rfl | hi
      · simpa using (by omega : a - 1 < 9223372036854775808)
      · omega
    · intro i e
      have : i = j - 1 := by omega
      subst this
      omega
set_option maxHeartbeats 1600000 in
theorem rprec_any (a : Int) (g : -9223372036854775808 ≤ a) (g' : a ≤ 9223372036854775807) (w : World) :
    Calls Try.prog 24 #[.int .i64 a] w fun e w' => e = .returned (.int .i64 (precI a)) ∧ w = w' := by
  have HP := Lib.hid (prec_at a)
  go_enter Try.func24, Try.ntmps24
  go_wp2
  go_loop [3] (fun u => ∃ j : Nat, j ≤ 63 ∧ u = .int .i64 (-32 + (j : Int)) ∧ Hid (∀ i : Nat, i < j → (2 : Int) ^ i < a)) (fun u => (31 - intOf u).toNat)
  case atStart => exact ⟨0, by omega, rfl, Lib.hid (fun i h => by omega)⟩
  case round =>
    obtain ⟨j, hj, rfl, lo⟩ := hrel
    by_cases h63 : j = 63
    · have hv := Lib.hid (HP.out j hj lo.out (.inl h63) g')
      subst h63
      go_wp2_with fail
      go_ret
      exact ⟨ret1 hv.out.symm, rfl⟩
    · have c1 := rpow_any (-32 + (j : Int)) (by omega) (by omega)
      rw [pow_place j (by omega)] at c1
      by_cases hp : (2 : Int) ^ j < a
      · have N : Hid (∀ i : Nat, i < j + 1 → (2 : Int) ^ i < a) := Lib.hid (fun i h => by
          by_cases he : i = j
          · subst he; exact hp
          · exact lo.out i (by omega))
        obtain ⟨p, hq⟩ : ∃ p, (2 : Int) ^ j = p := ⟨_, rfl⟩
        rw [hq] at c1 hp
        clear hq
        go_wp2_with fail
        (with_reducible refine (c1 _).mono ?_)
        rintro e w1 ⟨rfl, rfl⟩
        go_wp2_with fail
        go_round
        case rel => exact ⟨j + 1, by omega, by go_num, N⟩
        case measure => simp [intOf]; omega
      · have hv := Lib.hid (HP.out j hj lo.out (.inr (by omega)) g')
        obtain ⟨p, hq⟩ : ∃ p, (2 : Int) ^ j = p := ⟨_, rfl⟩
        rw [hq] at c1 hp
        clear hq
        go_wp2_with fail
        (with_reducible refine (c1 _).mono ?_)
        rintro e w1 ⟨rfl, rfl⟩
        go_wp2_with fail
        go_ret
        exact ⟨ret1 hv.out.symm, rfl⟩
end Go.Proofs.Ytpolcaghofnahaa.W
