/- FloatyKinds: every floating-point number is of one kind, told by its comparisons; its negative one is of the other one. No condition. -/
import Derived.Test.YtodlmdbgkopdnaaFyF
import Derived.WalkKit
import Derived.WalkSpells
import Derived.WalkLawsBesides
import Derived.Lib.Hide
import Derived.Handy
import Derived.ProofKit
import Derived.OpenShut
import Derived.ShutString
import Derived.ChangeOld
import Derived.Below
namespace Go.Proofs.Ytodlmdbgkopdnaa.FloatyKinds
open Go.Proofs.Ytodlmdbgkopdnaa.W
open Go.ChangeShapes Go.WideShapes Go.ChangeAt Go.RowKit
open Go.ChangeMaps (open_string shut_string)
set_option linter.unusedVariables false
theorem own : ownKnob Try.prog.godebug = none := by kernel_rfl
theorem laidOut : laidOutB Try.prog = true := by kernel_rfl
theorem sign_bit (b : Nat) : b.testBit 63 = neg b := by
  rw [Nat.testBit_eq_decide_div_mod_eq, show (2 : Nat) ^ 63 = 9223372036854775808 by decide]
  unfold neg
  rw [Bool.eq_iff_iff]; simp
theorem turned (b : Nat) (hb : b < 18446744073709551616) : Op.negFloat .f64 b < 18446744073709551616 ∧ neg (Op.negFloat .f64 b) = !neg b ∧ rung (Op.negFloat .f64 b) = rung b := by
  have e : Op.negFloat .f64 b = b ^^^ 2 ^ 63 := rfl
  rw [e]
  refine ⟨?_, ?_, ?_⟩
  · have := Nat.xor_lt_two_pow (x := b) (y := 2 ^ 63) (n := 64) (by omega) (by decide)
    omega
  · rw [← sign_bit, ← sign_bit, Nat.testBit_xor, Nat.testBit_two_pow_self]; simp
  · unfold rung
    rw [show 9223372036854775808 = 2 ^ 63 by decide]
    apply Nat.eq_of_testBit_eq
    intro i
    rw [Nat.testBit_mod_two_pow, Nat.testBit_mod_two_pow, Nat.testBit_xor, Nat.testBit_two_pow]
    by_cases h : i < 63
    · simp [h, show ¬ 63 = i by omega]
    · simp [h]
set_option maxHeartbeats 1600000 in
theorem walk (a0 : Nat) (w : World) (w0 : (Lit.float .f64 a0).wf = true) :
    Calls Try.prog 7 #[.float .f64 a0] w fun e w' => e = .returned (.bool true) ∧ Below w.heap.size w w' := by
  have b0 := f64_bounds w0
  clear w0
  obtain ⟨t1, t2, t3⟩ := turned a0 b0
  have c1 := kind_any a0 b0
  have c2 := kind_any (Op.negFloat .f64 a0) t1
  have k2 : kindI (Op.negFloat .f64 a0) = if 9218868437227405312 < rung a0 then 0 else if rung a0 = 9218868437227405312 then (if !neg a0 then 2 else 1) else if rung a0 = 0 then (if !neg a0 then 4 else 3) else (if !neg a0 then 6 else 5) := by
    unfold kindI
    rw [t2, t3]
  rw [k2] at c2
  unfold kindI at c1
  have hu : ∀ w, (Op.unary .neg (.float .f64 a0)).run Try.prog w = .ok (.float .f64 (Op.negFloat .f64 a0)) w := fun w => rfl
  clear k2 t1 t2 t3
  generalize Op.negFloat .f64 a0 = m at *
  obtain ⟨_, _, n0, _⟩ := isN_consts
  by_cases hn : isN a0
  · have o1 := order_eq hn hn rfl
    rw [if_neg (Nat.not_lt.2 hn)] at c1 c2
    by_cases hz : rung a0 = 0
    · rw [if_neg (by omega), if_pos hz] at c1 c2
      have o2 := order_eq hn n0 (by rw [(V_zero_iff a0).2 hz, V_0])
      have hd := run_quo _ a0 _ (one_over hz)
      have hi : isN (Ieee.double.word (neg a0) 9218868437227405312) := by unfold isN; rw [rung_word _ _ (by decide)]; decide
      have hv := V_word (neg a0) 9218868437227405312 (by decide)
      have hp : (0 : Int) < val 9218868437227405312 := by rw [val_inf]; have := pw_pos 2098; omega
      generalize Ieee.double.word (neg a0) 9218868437227405312 = q at *
      generalize (val 9218868437227405312 : Int) = z at *
      cases hs : neg a0
      · have o3 := order_gt hi n0 (by rw [hv, hs, V_0, if_neg (by decide)]; exact hp)
        rw [hs, if_neg (by decide)] at c1
        rw [hs, if_pos (by decide)] at c2
        clear hn hz hi hv hp hs n0 b0
        go_enter Try.func7, Try.ntmps7
        go_wp2_with fail
        (with_reducible refine (c1 _).mono ?_)
        rintro e w' ⟨rfl, rfl⟩
        go_wp2_with fail
        (with_reducible refine (c2 _).mono ?_)
        rintro e w' ⟨rfl, rfl⟩
        go_wp2_with fail
        (with_reducible refine (kshown_any _).mono ?_)
        rintro e w' ⟨rfl, rfl⟩
        go_wp2_with fail
        go_ret
        refine ⟨rfl, ?_⟩
        repeat' (first | (with_reducible exact Below.refl _ _) | (with_reducible assumption) | (with_reducible refine below_drewN ?_ _) | (with_reducible refine Below.drew ?_) | (with_reducible refine Below.setCell ?_ ?_ _) | (with_reducible refine Below.alloc ?_ ?_ _) | (simp; done) | (simp; omega) | omega)
      · have o3 := order_lt hi n0 (by rw [hv, hs, V_0, if_pos rfl]; omega)
        rw [hs, if_pos rfl] at c1
        rw [hs, if_neg (by decide)] at c2
        clear hn hz hi hv hp hs n0 b0
        go_enter Try.func7, Try.ntmps7
        go_wp2_with fail
        (with_reducible refine (c1 _).mono ?_)
        rintro e w' ⟨rfl, rfl⟩
        go_wp2_with fail
        (with_reducible refine (c2 _).mono ?_)
        rintro e w' ⟨rfl, rfl⟩
        go_wp2_with fail
        (with_reducible refine (kshown_any _).mono ?_)
        rintro e w' ⟨rfl, rfl⟩
        go_wp2_with fail
        go_ret
        refine ⟨rfl, ?_⟩
        repeat' (first | (with_reducible exact Below.refl _ _) | (with_reducible assumption) | (with_reducible refine below_drewN ?_ _) | (with_reducible refine Below.drew ?_) | (with_reducible refine Below.setCell ?_ ?_ _) | (with_reducible refine Below.alloc ?_ ?_ _) | (simp; done) | (simp; omega) | omega)
    · rcases V_sign a0 hz with ⟨hs, hv⟩ | ⟨hs, hv⟩
      · have o2 := order_gt hn n0 (by rw [V_0]; exact hv)
        rw [hs, if_neg (by decide : ¬ (false = true)), if_neg (by decide : ¬ (false = true)), if_neg (by decide : ¬ (false = true))] at c1
        rw [hs, if_pos (by decide : (!false) = true), if_pos (by decide : (!false) = true), if_pos (by decide : (!false) = true)] at c2
        by_cases hi : rung a0 = 9218868437227405312
        · rw [if_pos hi] at c1 c2
          clear hn hz hi hv hs n0 b0
          go_enter Try.func7, Try.ntmps7
          go_wp2_with fail
          (with_reducible refine (c1 _).mono ?_)
          rintro e w' ⟨rfl, rfl⟩
          go_wp2_with fail
          (with_reducible refine (c2 _).mono ?_)
          rintro e w' ⟨rfl, rfl⟩
          go_wp2_with fail
          (with_reducible refine (kshown_any _).mono ?_)
          rintro e w' ⟨rfl, rfl⟩
          go_wp2_with fail
          go_ret
          refine ⟨rfl, ?_⟩
          repeat' (first | (with_reducible exact Below.refl _ _) | (with_reducible assumption) | (with_reducible refine below_drewN ?_ _) | (with_reducible refine Below.drew ?_) | (with_reducible refine Below.setCell ?_ ?_ _) | (with_reducible refine Below.alloc ?_ ?_ _) | (simp; done) | (simp; omega) | omega)
        · rw [if_neg hi, if_neg hz] at c1 c2
          clear hn hz hi hv hs n0 b0
          go_enter Try.func7, Try.ntmps7
          go_wp2_with fail
          (with_reducible refine (c1 _).mono ?_)
          rintro e w' ⟨rfl, rfl⟩
          go_wp2_with fail
          (with_reducible refine (c2 _).mono ?_)
          rintro e w' ⟨rfl, rfl⟩
          go_wp2_with fail
          (with_reducible refine (kshown_any _).mono ?_)
          rintro e w' ⟨rfl, rfl⟩
          go_wp2_with fail
          go_ret
          refine ⟨rfl, ?_⟩
          repeat' (first | (with_reducible exact Below.refl _ _) | (with_reducible assumption) | (with_reducible refine below_drewN ?_ _) | (with_reducible refine Below.drew ?_) | (with_reducible refine Below.setCell ?_ ?_ _) | (with_reducible refine Below.alloc ?_ ?_ _) | (simp; done) | (simp; omega) | omega)
      · have o2 := order_lt hn n0 (by rw [V_0]; exact hv)
        rw [hs, if_pos (rfl : true = true), if_pos (rfl : true = true), if_pos (rfl : true = true)] at c1
        rw [hs, if_neg (by decide : ¬ ((!true) = true)), if_neg (by decide : ¬ ((!true) = true)), if_neg (by decide : ¬ ((!true) = true))] at c2
        by_cases hi : rung a0 = 9218868437227405312
        · rw [if_pos hi] at c1 c2
          clear hn hz hi hv hs n0 b0
          go_enter Try.func7, Try.ntmps7
          go_wp2_with fail
          (with_reducible refine (c1 _).mono ?_)
          rintro e w' ⟨rfl, rfl⟩
          go_wp2_with fail
          (with_reducible refine (c2 _).mono ?_)
          rintro e w' ⟨rfl, rfl⟩
          go_wp2_with fail
          (with_reducible refine (kshown_any _).mono ?_)
          rintro e w' ⟨rfl, rfl⟩
          go_wp2_with fail
          go_ret
          refine ⟨rfl, ?_⟩
          repeat' (first | (with_reducible exact Below.refl _ _) | (with_reducible assumption) | (with_reducible refine below_drewN ?_ _) | (with_reducible refine Below.drew ?_) | (with_reducible refine Below.setCell ?_ ?_ _) | (with_reducible refine Below.alloc ?_ ?_ _) | (simp; done) | (simp; omega) | omega)
        · rw [if_neg hi, if_neg hz] at c1 c2
          clear hn hz hi hv hs n0 b0
          go_enter Try.func7, Try.ntmps7
          go_wp2_with fail
          (with_reducible refine (c1 _).mono ?_)
          rintro e w' ⟨rfl, rfl⟩
          go_wp2_with fail
          (with_reducible refine (c2 _).mono ?_)
          rintro e w' ⟨rfl, rfl⟩
          go_wp2_with fail
          (with_reducible refine (kshown_any _).mono ?_)
          rintro e w' ⟨rfl, rfl⟩
          go_wp2_with fail
          go_ret
          refine ⟨rfl, ?_⟩
          repeat' (first | (with_reducible exact Below.refl _ _) | (with_reducible assumption) | (with_reducible refine below_drewN ?_ _) | (with_reducible refine Below.drew ?_) | (with_reducible refine Below.setCell ?_ ?_ _) | (with_reducible refine Below.alloc ?_ ?_ _) | (simp; done) | (simp; omega) | omega)
  · have o1 := order_none (x := a0) (y := a0) (.inl hn)
    rw [if_pos (Nat.not_le.1 hn)] at c1 c2
    clear hn n0 b0
    go_enter Try.func7, Try.ntmps7
    go_wp2_with fail
    (with_reducible refine (c1 _).mono ?_)
    rintro e w' ⟨rfl, rfl⟩
    go_wp2_with fail
    (with_reducible refine (c2 _).mono ?_)
    rintro e w' ⟨rfl, rfl⟩
    go_wp2_with fail
    (with_reducible refine (kshown_any _).mono ?_)
    rintro e w' ⟨rfl, rfl⟩
    go_wp2_with fail
    go_ret
    refine ⟨rfl, ?_⟩
    repeat' (first | (with_reducible exact Below.refl _ _) | (with_reducible assumption) | (with_reducible refine below_drewN ?_ _) | (with_reducible refine Below.drew ?_) | (with_reducible refine Below.setCell ?_ ?_ _) | (with_reducible refine Below.alloc ?_ ?_ _) | (simp; done) | (simp; omega) | omega)
set_option maxRecDepth 100000 in
theorem lifted (os : Os) (started : os.Started) (H : Type) (enc : TypeId × Value → H) :
    ReturnsInHanded {} Try.checked os 7 .any (Rows.floatyKindsSpec.pre6 enc Try.prog Try.f7 Rows.floatyKindsRow.domain false) (Rows.floatyKindsSpec.post enc Try.prog Try.f7 false true false false) := by
  refine returnsInHanded_of_change (C := Try.checked) own started (by kernel_rfl) Try.func7
    (ChangeSpec.witness6 (enc := enc) (C := Try.checked) false ⟨#[], #[.float .f64 0], []⟩ 8 (by kernel_rfl) (by kernel_rfl) (by kernel_rfl) (by kernel_rfl)) ?_
  intro W base args ds gs before hval0 hW hcnd _
  have hval : ∀ (j : Nat) t v, Try.f7.params[j]? = some t → args[j]? = some v → Value.okWide Try.prog W .any base t v := hval0
  have hW' := hW
  obtain ⟨p, q, hA0, hV, rfl, hfz, hnd⟩ := hW
  have hA : DataW.TrodAll enc Try.prog W 0 (fun _ => true) true Try.f7.params.toList args.toList ds p := hA0
  rw [Try.params7] at hA hval
  obtain ⟨v0, vs0, d0, ds0, p0, q0, hargs, rfl, rfl, h0, r0⟩ := trodAll_cons hA
  obtain ⟨rfl, rfl, rfl⟩ := trodAll_nil r0
  obtain rfl : args = #[v0] := by cases args; simp_all
  obtain ⟨rfl, rfl⟩ := trodVars_none hV
  obtain ⟨a0, rfl, rfl, rfl, w0⟩ := open_float Try.underlying22 (hval 0 22 v0 rfl rfl) h0
  clear hA0 hval0
  refine (walk a0 W w0).mono fun e W' ⟨he, bel⟩ => ?_
  subst he
  exact ⟨_, rfl, _, _, _, [], _, [], hW', trodAll_mk1 (shut_bool Try.underlying4 _), (trodAll_cons_mk (shut_float Try.underlying22 w0) trodAll_mk0), rfl, bel.frame _, fun h => by cases h⟩

theorem over : Rows.floatyKindsRow.holds Try.pinned (OpenSpec.ofChange Rows.floatyKindsSpec) :=
  OpenClaim.holds_of_wide 7 Try.f7 rfl rfl rfl rfl rfl rfl rfl ⟨rfl, rfl, rfl, rfl, rfl⟩ rfl rfl rfl rfl rfl (by kernel_rfl) Try.func7 (by kernel_rfl)
    (of_decide_eq_true (by kernel_rfl)) (by unfold Func.isWrapper; first | (rw [if_pos (by decide +kernel)]; kernel_rfl) | (rw [if_neg (by decide +kernel)]; exact ⟨rfl, rfl⟩))
    (fun os started H enc _ => lifted os started H enc)

theorem proved : Rows.FloatyKindsSaid := over
end Go.Proofs.Ytodlmdbgkopdnaa.FloatyKinds
