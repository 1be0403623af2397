/- FixShifts: for every int64 (cut to its upper 44 bits by the statement itself) and every number of places below 60, a shift there and back is not above, and less than a unit of it away; by as many places one by one it is the same. No condition. -/
import Derived.Test.YtlnoclffgmcgoaaFixZ
import Derived.WalkKit
import Derived.WalkSpells
import Derived.WalkLawsBesides
import Derived.Lib.Hide
import Derived.Handy
import Derived.ProofKit
import Derived.OpenShut
import Derived.ShutString
import Derived.ChangeOld
import Derived.Below
namespace Go.Proofs.Ytlnoclffgmcgoaa.FixShifts
open Go.Proofs.Ytlnoclffgmcgoaa.W
open Go.ChangeShapes Go.WideShapes Go.ChangeAt Go.RowKit
open Go.ChangeMaps (open_string shut_string)
set_option linter.unusedVariables false
theorem own : ownKnob Try.prog.godebug = none := by kernel_rfl
theorem laidOut : laidOutB Try.prog = true := by kernel_rfl
set_option linter.unusedSimpArgs false
theorem down_is (x : Int) (j : Nat) (h : -8796093022208 ≤ x) (h' : x ≤ 8796093022208) (hj : j ≤ 1000) : shiftI x (-(j : Int)) = x / 2 ^ j ∧ -8796093022208 ≤ x / 2 ^ j ∧ x / 2 ^ j ≤ 8796093022208 := by
  have hp := pow_pos2 j
  have lo : -8796093022208 ≤ x / 2 ^ j := by
    rw [Int.le_ediv_iff_mul_le hp]
    have : -8796093022208 * (2 : Int) ^ j ≤ -8796093022208 * 1 := by omega
    omega
  have hi : x / 2 ^ j ≤ 8796093022208 := by
    apply Int.le_of_lt_add_one
    apply Int.ediv_lt_of_lt_mul hp
    omega
  refine ⟨?_, lo, hi⟩
  unfold shiftI
  by_cases h0 : j = 0
  · subst h0
    rw [if_neg (by omega)]
    simp
    show cutI (x * 2 ^ 0) = x
    rw [Int.pow_zero, Int.mul_one]
    exact cutI_in x (by omega) (by omega)
  · rw [if_pos (by omega), show (min (- -(j : Int)) 1000).toNat = j by omega]
    exact cutI_in _ (by omega) (by omega)
theorem down_next (x : Int) (j : Nat) (h : -8796093022208 ≤ x) (h' : x ≤ 8796093022208) (hj : j < 60) : shiftI (shiftI x (-(j : Int))) (-1) = shiftI x (-((j + 1 : Nat) : Int)) := by
  obtain ⟨e, lo, hi⟩ := down_is x j h h' (by omega)
  rw [e, (down_is x (j + 1) h h' (by omega)).1, div_next]
  have := (down_is (x / 2 ^ j) 1 lo hi (by omega)).1
  simpa using this
theorem up_is (x : Int) (j : Nat) (hj : j ≤ 1000) : shiftI x (j : Int) = cutI (x * 2 ^ j) := by
  unfold shiftI
  rw [if_neg (by omega), show (min (j : Int) 1000).toNat = j by omega]
theorem up_next (x : Int) (j : Nat) (hj : j < 60) : shiftI (shiftI x (j : Int)) 1 = shiftI x ((j + 1 : Nat) : Int) := by
  rw [up_is x j (by omega), up_is x (j + 1) (by omega)]
  have := up_is (cutI (x * 2 ^ j)) 1 (by omega)
  rw [show ((1 : Nat) : Int) = 1 from rfl] at this
  rw [this, show cutI (x * 2 ^ j) * 2 ^ 1 = 2 * cutI (x * 2 ^ j) by omega, cutI_double, ← mul_next]
theorem up_zero (x : Int) (h : -8796093022208 ≤ x) (h' : x ≤ 8796093022208) : shiftI x 0 = x := by
  have := up_is x 0 (by omega)
  simp at this
  rw [this]; exact cutI_in _ (by omega) (by omega)
theorem there_back (x : Int) (k : Nat) (h : -8796093022208 ≤ x) (h' : x ≤ 8796093022208) (hk : k < 60) : shiftI (shiftI x (-(k : Int))) k ≤ x ∧ x - shiftI (shiftI x (-(k : Int))) k < 2 ^ k ∧ -9223372036854775808 ≤ x - shiftI (shiftI x (-(k : Int))) k := by
  obtain ⟨e, lo, hi⟩ := down_is x k h h' (by omega)
  rw [e, up_is _ k (by omega)]
  have hp := pow_pos2 k
  have hq : (2 : Int) ^ k ≤ 576460752303423488 := by
    have : (2 : Int) ^ k ≤ 2 ^ 59 := by rw [pow_cast, pow_cast]; exact_mod_cast Nat.pow_le_pow_right (by decide) (by omega)
    simpa using this
  have d := Int.mul_ediv_add_emod x (2 ^ k)
  have r0 := Int.emod_nonneg x (show (2 : Int) ^ k ≠ 0 by omega)
  have r1 := Int.emod_lt_of_pos x hp
  rw [Int.mul_comm] at d
  rw [cutI_in _ (by omega) (by omega)]
  omega
set_option maxHeartbeats 3200000 in
theorem walk (a0 a1 : Int) (w : World) (w0 : (Lit.int .i64 a0).wf = true) (w1 : (Lit.int .u8 a1).wf = true) :
    Calls Try.prog 9 #[.int .i64 a0, .int .u8 a1] w fun e w' => e = .returned (.bool true) ∧ Below w.heap.size w w' := by
  obtain ⟨p0, p1⟩ := i64_bounds w0
  have q := bounds_u8 w1
  clear w0 w1
  obtain ⟨q0, q1⟩ : 0 ≤ a1 ∧ a1 < 256 := by omega
  clear q
  obtain ⟨x, hx⟩ : ∃ x, a0 / 1048576 = x := ⟨_, rfl⟩
  obtain ⟨k, hk⟩ : ∃ k : Nat, a1 % 60 = k := ⟨(a1 % 60).toNat, by omega⟩
  obtain ⟨x0, x1, k1⟩ : -8796093022208 ≤ x ∧ x ≤ 8796093022208 ∧ k < 60 := by omega
  obtain ⟨t1, t2, t3⟩ := there_back x k x0 x1 k1
  obtain ⟨g0, g1⟩ := shiftI_range x (-(k : Int))
  obtain ⟨g2, g3⟩ := shiftI_range (shiftI x (-(k : Int))) k
  have c1 := shift_any x (-(k : Int)) (by omega) (by omega) (by omega) (by omega)
  have c2 := shift_any (shiftI x (-(k : Int))) k (by omega) (by omega) (by omega) (by omega)
  have c3 := shift_any x k (by omega) (by omega) (by omega) (by omega)
  have Z0 : x = shiftI x (-((0 : Nat) : Int)) := by simpa using (up_zero x x0 x1).symm
  have V0 : x = shiftI x ((0 : Nat) : Int) := by simpa using (up_zero x x0 x1).symm
  have HZ := Lib.hid Z0
  have HV := Lib.hid V0
  have p18 : k ≤ 18 → (2 : Int) ^ min k 64 = 2 ^ k ∧ (2 : Int) ^ k ≤ 262144 := by
    intro h
    rw [Nat.min_eq_left (by omega)]
    refine ⟨rfl, ?_⟩
    have : (2 : Int) ^ k ≤ 2 ^ 18 := by rw [pow_cast, pow_cast]; exact_mod_cast Nat.pow_le_pow_right (by decide) h
    simpa using this
  have P18 := Lib.hid p18
  have HX := Lib.hid hx
  clear Z0 V0 p18
  obtain ⟨y, hy⟩ : ∃ y, shiftI (shiftI x (-(k : Int))) k = y := ⟨_, rfl⟩
  rw [hy] at t1 t2 t3 c2 g2 g3
  clear hy
  go_enter Try.func9, Try.ntmps9
  go_wp2_with fail
  (with_reducible refine (c1 _).mono ?_)
  rintro e w' ⟨rfl, rfl⟩
  go_wp2_with fail
  (with_reducible refine (c2 _).mono ?_)
  rintro e w' ⟨rfl, rfl⟩
  go_wp2_with fail
  go_loop [8, 9] (fun u i => ∃ j : Nat, j ≤ k ∧ i = .int .i64 j ∧ u = .int .i64 (shiftI x (-(j : Int)))) (fun _ i => k - (intOf i).toNat)
  case atStart => exact ⟨0, Nat.zero_le _, rfl, by rw [← HZ.out]⟩
  case round =>
    obtain ⟨j, hj, rfl, rfl⟩ := hrel
    by_cases hj2 : j < k
    · obtain ⟨f0, f1⟩ := shiftI_range x (-(j : Int))
      have c := shift_any (shiftI x (-(j : Int))) (-1) (by omega) (by omega) (by decide) (by decide)
      rw [down_next x j x0 x1 (by omega)] at c
      go_wp2_with fail
      (with_reducible refine (c _).mono ?_)
      rintro e w' ⟨rfl, rfl⟩
      go_wp2_with fail
      go_round
      case rel => exact ⟨j + 1, by omega, by go_num, rfl⟩
      case measure => simp [intOf]; omega
    · obtain rfl : j = k := by omega
      go_wp2_with fail
      (with_reducible refine (c3 _).mono ?_)
      rintro e w' ⟨rfl, rfl⟩
      go_wp2_with fail
      go_loop [11, 12] (fun u i => ∃ m : Nat, m ≤ j ∧ i = .int .i64 m ∧ u = .int .i64 (shiftI x (m : Int))) (fun _ i => j - (intOf i).toNat)
      case atStart => exact ⟨0, Nat.zero_le _, rfl, by rw [← HV.out]⟩
      case round =>
        obtain ⟨m, hm, rfl, rfl⟩ := hrel
        by_cases hm2 : m < j
        · obtain ⟨f0, f1⟩ := shiftI_range x (m : Int)
          have c := shift_any (shiftI x (m : Int)) 1 (by omega) (by omega) (by decide) (by decide)
          rw [up_next x m (by omega)] at c
          go_wp2_with fail
          (with_reducible refine (c _).mono ?_)
          rintro e w' ⟨rfl, rfl⟩
          go_wp2_with fail
          go_round
          case rel => exact ⟨m + 1, by omega, by go_num, rfl⟩
          case measure => simp [intOf]; omega
        · obtain rfl : m = j := by omega
          by_cases h18 : m ≤ 18
          · obtain ⟨e1, e2⟩ := P18.out h18
            have hp := pow_pos2 m
            have h19 : ¬ 18 < m := by omega
            go_wp2_with fail
            (with_reducible refine (c1 _).mono ?_)
            rintro e w' ⟨rfl, rfl⟩
            go_wp2_with fail
            (with_reducible refine (fshown_any _).mono ?_)
            rintro e w1 ⟨rfl, hB⟩
            go_wp2_with fail
            go_ret
            exact ⟨rfl, hB⟩
          · have h19 : 18 < m := by omega
            go_wp2_with fail
            (with_reducible refine (c1 _).mono ?_)
            rintro e w' ⟨rfl, rfl⟩
            go_wp2_with fail
            (with_reducible refine (fshown_any _).mono ?_)
            rintro e w1 ⟨rfl, hB⟩
            go_wp2_with fail
            go_ret
            exact ⟨rfl, hB⟩
set_option maxRecDepth 100000 in
theorem lifted (os : Os) (started : os.Started) (H : Type) (enc : TypeId × Value → H) :
    ReturnsInHanded {} Try.checked os 9 .any (Rows.fixShiftsSpec.pre6 enc Try.prog Try.f9 Rows.fixShiftsRow.domain false) (Rows.fixShiftsSpec.post enc Try.prog Try.f9 false true false false) := by
  refine returnsInHanded_of_change (C := Try.checked) own started (by kernel_rfl) Try.func9
    (ChangeSpec.witness6 (enc := enc) (C := Try.checked) false ⟨#[], #[.int .i64 0, .int .u8 0], []⟩ 8 (by kernel_rfl) (by kernel_rfl) (by kernel_rfl) (by kernel_rfl)) ?_
  intro W base args ds gs before hval0 hW hcnd _
  have hval : ∀ (j : Nat) t v, Try.f9.params[j]? = some t → args[j]? = some v → Value.okWide Try.prog W .any base t v := hval0
  have hW' := hW
  obtain ⟨p, q, hA0, hV, rfl, hfz, hnd⟩ := hW
  have hA : DataW.TrodAll enc Try.prog W 0 (fun _ => true) true Try.f9.params.toList args.toList ds p := hA0
  rw [Try.params9] at hA hval
  obtain ⟨v0, vs0, d0, ds0, p0, q0, hargs, rfl, rfl, h0, r0⟩ := trodAll_cons hA
  obtain ⟨v1, vs1, d1, ds1, p1, q1, rfl, rfl, rfl, h1, r1⟩ := trodAll_cons r0
  obtain ⟨rfl, rfl, rfl⟩ := trodAll_nil r1
  obtain rfl : args = #[v0, v1] := by cases args; simp_all
  obtain ⟨rfl, rfl⟩ := trodVars_none hV
  obtain ⟨a0, rfl, rfl, rfl, w0⟩ := open_int Try.underlying2 (hval 0 2 v0 rfl rfl) h0
  obtain ⟨a1, rfl, rfl, rfl, w1⟩ := open_int Try.underlying5 (hval 1 5 v1 rfl rfl) h1
  clear hA0 hval0
  refine (walk a0 a1 W w0 w1).mono fun e W' ⟨he, bel⟩ => ?_
  subst he
  exact ⟨_, rfl, _, _, _, [], _, [], hW', trodAll_mk1 (shut_bool Try.underlying4 _), (trodAll_cons_mk (shut_int Try.underlying2 w0) (trodAll_cons_mk (shut_int Try.underlying5 w1) trodAll_mk0)), rfl, bel.frame _, fun h => by cases h⟩

theorem over : Rows.fixShiftsRow.holds Try.pinned (OpenSpec.ofChange Rows.fixShiftsSpec) :=
  OpenClaim.holds_of_wide 9 Try.f9 rfl rfl rfl rfl rfl rfl rfl ⟨rfl, rfl, rfl, rfl, rfl⟩ rfl rfl rfl rfl rfl (by kernel_rfl) Try.func9 (by kernel_rfl)
    (of_decide_eq_true (by kernel_rfl)) (by unfold Func.isWrapper; first | (rw [if_pos (by decide +kernel)]; kernel_rfl) | (rw [if_neg (by decide +kernel)]; exact ⟨rfl, rfl⟩))
    (fun os started H enc _ => lifted os started H enc)

theorem proved : Rows.FixShiftsSaid := over
end Go.Proofs.Ytlnoclffgmcgoaa.FixShifts
