/- Layer 6's own code, walked: fields that are compared. -/
import Derived.Test.YtdcpohbgbnbgmaaEdC
import Derived.Outline
namespace Go.Proofs.Ytdcpohbgbnbgmaa.W
open Go.RowKit Go.Sort
set_option linter.unusedVariables false
set_option linter.unusedSimpArgs false
theorem fdx_neq (x y : Fd) (w : World) : (binOp .neq 44 x.val y.val).run Try.prog w = .ok (.bool (!fdEq x y)) w := by
  cases x with | mk t p =>
  cases y with | mk u q =>
  unfold Fd.val fdEq
  simp only []
  by_cases h1 : t = u
  · by_cases h2 : p = q
    · subst h1; subst h2
      simp [go_sem]
    · have h3 : ¬ bs p = bs q := fun e => h2 (bs_inj e)
      simp [go_sem, h1, h2, h3]
  · simp [go_sem, h1]
set_option maxHeartbeats 3200000 in
theorem equal_any (a b : List Fd) (ha : a.length ≤ 1000000) (hb : b.length ≤ 1000000) (va vb : Value) (w : World) (ia : FdIn w va a) (ib : FdIn w vb b) :
    Calls Try.prog 28 #[va, vb] w fun e w' => e = .returned (.bool (fdSame a b)) ∧ ∃ m, w' = w.drewN m := by
  by_cases hl : a.length = b.length
  · rcases ia with ⟨xa, ca, rfl, _, rfl⟩ | ⟨ab, ao, ac, rfl, al, ha'⟩
    · obtain rfl : b = [] := List.eq_nil_of_length_eq_zero (by simpa using hl.symm)
      have hv : ∃ x c, vb = .slice x 0 c := by
        rcases ib with ⟨xb, cb, rfl, _⟩ | ⟨bb, bo, bc, rfl, _⟩
        · exact ⟨_, _, rfl⟩
        · exact ⟨_, _, rfl⟩
      obtain ⟨x, c, rfl⟩ := hv
      clear ib hl
      go_enter Try.func28, Try.ntmps28
      go_wp2
      refine wp_loop_rounds 1 ?_
      rw [rounds_succ]
      go_wp2
      go_ret
      exact ⟨rfl, 0, rfl⟩
    · rcases ib with ⟨xb, cb, rfl, _, rfl⟩ | ⟨bb, bo, bc, rfl, bl, hb'⟩
      · obtain rfl : a = [] := List.eq_nil_of_length_eq_zero (by simpa using hl)
        clear hl
        go_enter Try.func28, Try.ntmps28
        go_wp2
        refine wp_loop_rounds 1 ?_
        rw [rounds_succ]
        go_wp2
        go_ret
        exact ⟨rfl, 0, rfl⟩
      · have HA := Lib.hid ha'
        have HB := Lib.hid hb'
        clear ha' hb'
        go_enter Try.func28, Try.ntmps28
        go_wp2
        go_loopw [13] (fun i wr => ∃ k m : Nat, k ≤ a.length ∧ i = .int .i64 k ∧ fdSame a b = fdSame (a.drop k) (b.drop k) ∧ wr = w.drewN m) (fun i _ => a.length - (intOf i).toNat)
        case atStart => exact ⟨0, 0, Nat.zero_le _, rfl, rfl, rfl⟩
        case round =>
          obtain ⟨k, m, hk, rfl, hs, rfl⟩ := hrel
          by_cases hlt : k < a.length
          · obtain ⟨a1, a2⟩ := HA.out k hlt
            obtain ⟨b1, b2⟩ := HB.out k (by omega)
            rw [fdSame_step a b k hlt (by omega)] at hs
            have hn := fdx_neq (a.getD k ⟨0, []⟩) (b.getD k ⟨0, []⟩)
            generalize a.getD k ⟨0, []⟩ = x at *
            generalize b.getD k ⟨0, []⟩ = y at *
            unfold Fd.val at hn
            have i0 : (0 : Int) ≤ (k : Int) := by omega
            have i1 : (k : Int) < (a.length : Int) := by omega
            have i2 : (k : Int) < (b.length : Int) := by omega
            have HS := Lib.hid hs
            clear hs
            cases he : fdEq x y
            · rw [he] at hn
              go_wp2_with fail
              go_quiet (fail)
              go_wp2_with fail
              go_ret
              exact ⟨by rw [HS.out, he]; rfl, _, drewN_two _ _ _⟩
            · rw [he] at hn
              go_wp2_with fail
              go_quiet (fail)
              go_wp2_with fail
              go_roundw
              case rel => exact ⟨k + 1, _, by omega, by go_num, by rw [HS.out, he]; rfl, by first | exact drewN_two _ _ _ | exact rfl⟩
              case measure => simp [intOf]; omega
          · obtain rfl : k = a.length := by omega
            rw [List.drop_of_length_le (Nat.le_refl _), List.drop_of_length_le (by omega)] at hs
            have HS := Lib.hid hs
            clear hs
            go_wp2_with fail
            go_ret
            exact ⟨by rw [HS.out]; rfl, _, rfl⟩
  · have hl' : ¬ (a.length : Int) = b.length := by omega
    have hf : fdSame a b = false := by
      cases h : fdSame a b
      · rfl
      · exact absurd (congrArg List.length ((fdSame_iff a b).1 h)) hl
    have hva : ∃ x c, va = .slice x a.length c := by
      rcases ia with ⟨_, _, rfl, _, rfl⟩ | ⟨bb, bo, bc, rfl, _⟩
      · exact ⟨_, _, rfl⟩
      · exact ⟨_, _, rfl⟩
    have hvb : ∃ x c, vb = .slice x b.length c := by
      rcases ib with ⟨_, _, rfl, _, rfl⟩ | ⟨bb, bo, bc, rfl, _⟩
      · exact ⟨_, _, rfl⟩
      · exact ⟨_, _, rfl⟩
    obtain ⟨x, c, rfl⟩ := hva
    obtain ⟨y, d, rfl⟩ := hvb
    rw [hf]
    clear hl hf ia ib
    go_enter Try.func28, Try.ntmps28
    go_wp2
    go_ret
    exact ⟨rfl, 0, rfl⟩
end Go.Proofs.Ytdcpohbgbnbgmaa.W
