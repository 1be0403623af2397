/- Layer 5's own code, walked: which headers may be. -/
import Derived.Test.YthfgjhffcbehbaaDoorRows
import Derived.Test.YthfgjhffcbehbaaDoorWdefs
import Derived.Test.YthfgjhffcbehbaaDoorHdB
import Derived.Test.YthfgjhffcbehbaaDoorHdI
import Derived.Test.YthfgjhffcbehbaaDoorHdC
import Derived.WalkKit
import Derived.WalkSpells
import Derived.WalkLawsBesides
import Derived.Lib.Hide
import Derived.Lib.Zigzag
import Derived.Handy
import Derived.OwnWalk

namespace Go.Proofs.YthfgjhffcbehbaaDoor.W
open Go.RowKit
set_option linter.unusedVariables false
set_option linter.unusedSimpArgs false
/-- The table of bounds, as the program's text lays it. -/
structure Laid (w : World) : Prop where
  lt : 0 < w.heap.size
  c0 : w.cell? ⟨0, 0, none⟩ = some (.int .i64 0)
  c1 : w.cell? ⟨0, 1, none⟩ = some (.int .i64 3)
  c2 : w.cell? ⟨0, 2, none⟩ = some (.int .i64 1)
  c3 : w.cell? ⟨0, 3, none⟩ = some (.int .i64 4)
  c4 : w.cell? ⟨0, 4, none⟩ = some (.int .i64 0)
  c5 : w.cell? ⟨0, 5, none⟩ = some (.int .i64 7)
  c6 : w.cell? ⟨0, 6, none⟩ = some (.int .i64 0)
  c7 : w.cell? ⟨0, 7, none⟩ = some (.int .i64 255)
  c8 : w.cell? ⟨0, 8, none⟩ = some (.int .i64 (-128))
  c9 : w.cell? ⟨0, 9, none⟩ = some (.int .i64 127)
  c10 : w.cell? ⟨0, 10, none⟩ = some (.int .i64 (-128))
  c11 : w.cell? ⟨0, 11, none⟩ = some (.int .i64 127)
theorem Laid.kept {w w' : World} (L : Laid w) (hB : Below w.heap.size w w') : Laid w' := by
  have c := fun o => (bcell hB).1 0 o L.lt
  exact ⟨Nat.lt_of_lt_of_le L.lt hB.size, by rw [c, L.c0], by rw [c, L.c1], by rw [c, L.c2], by rw [c, L.c3], by rw [c, L.c4], by rw [c, L.c5], by rw [c, L.c6], by rw [c, L.c7], by rw [c, L.c8], by rw [c, L.c9], by rw [c, L.c10], by rw [c, L.c11]⟩
set_option maxHeartbeats 3200000 in
theorem hmay_any (h : Hd) (w : World) (L : Laid w) :
    Calls Tryd.prog 10 #[h.val] w fun e w' => e = .returned (.bool h.may) ∧ Below w.heap.size w w' := by
  obtain ⟨lt, c0, c1, c2, c3, c4, c5, c6, c7, c8, c9, c10, c11⟩ := L
  have he : h.may = h.may := rfl
  obtain ⟨leap, ver, mode, str, poll, prec, rdel, rdis, ref, reft, org, rcv, tx⟩ := h
  unfold Hd.val
  simp only []
  obtain ⟨m, hm⟩ : ∃ m, Hd.may ⟨leap, ver, mode, str, poll, prec, rdel, rdis, ref, reft, org, rcv, tx⟩ = m := ⟨_, rfl⟩
  rw [hm]
  unfold Hd.may inB at hm
  simp only [] at hm
  clear he
  have HM := Lib.hid hm
  clear hm
  have i0 : ∀ w, (Instr.index 47 (.agg #[.int .i64 leap, .int .i64 ver, .int .i64 mode, .int .i64 str, .int .i64 poll, .int .i64 prec]) (.int .i64 0)).run Tryd.prog w = .ok (.int .i64 leap) w := fun _ => by kernel_rfl
  have i1 : ∀ w, (Instr.index 47 (.agg #[.int .i64 leap, .int .i64 ver, .int .i64 mode, .int .i64 str, .int .i64 poll, .int .i64 prec]) (.int .i64 1)).run Tryd.prog w = .ok (.int .i64 ver) w := fun _ => by kernel_rfl
  have i2 : ∀ w, (Instr.index 47 (.agg #[.int .i64 leap, .int .i64 ver, .int .i64 mode, .int .i64 str, .int .i64 poll, .int .i64 prec]) (.int .i64 2)).run Tryd.prog w = .ok (.int .i64 mode) w := fun _ => by kernel_rfl
  have i3 : ∀ w, (Instr.index 47 (.agg #[.int .i64 leap, .int .i64 ver, .int .i64 mode, .int .i64 str, .int .i64 poll, .int .i64 prec]) (.int .i64 3)).run Tryd.prog w = .ok (.int .i64 str) w := fun _ => by kernel_rfl
  have i4 : ∀ w, (Instr.index 47 (.agg #[.int .i64 leap, .int .i64 ver, .int .i64 mode, .int .i64 str, .int .i64 poll, .int .i64 prec]) (.int .i64 4)).run Tryd.prog w = .ok (.int .i64 poll) w := fun _ => by kernel_rfl
  have i5 : ∀ w, (Instr.index 47 (.agg #[.int .i64 leap, .int .i64 ver, .int .i64 mode, .int .i64 str, .int .i64 poll, .int .i64 prec]) (.int .i64 5)).run Tryd.prog w = .ok (.int .i64 prec) w := fun _ => by kernel_rfl
  go_enter Tryd.func10, Tryd.ntmps10
  go_wp2_with fail
  go_loop [18] (fun i => ∃ k : Nat, k ≤ 6 ∧ i = .int .i64 k ∧ (0 < k → 0 ≤ leap ∧ leap ≤ 3) ∧ (1 < k → 1 ≤ ver ∧ ver ≤ 4) ∧ (2 < k → 0 ≤ mode ∧ mode ≤ 7) ∧ (3 < k → 0 ≤ str ∧ str ≤ 255) ∧ (4 < k → (-128) ≤ poll ∧ poll ≤ 127) ∧ (5 < k → (-128) ≤ prec ∧ prec ≤ 127)) (fun i => 6 - (intOf i).toNat)
  case atStart => exact ⟨0, by omega, rfl, by omega, by omega, by omega, by omega, by omega, by omega⟩
  case round =>
    obtain ⟨k, hk, rfl, b0, b1, b2, b3, b4, b5⟩ := hrel
    have hc : k = 0 ∨ k = 1 ∨ k = 2 ∨ k = 3 ∨ k = 4 ∨ k = 5 ∨ k = 6 := by omega
    rcases hc with rfl | rfl | rfl | rfl | rfl | rfl | rfl
    · by_cases hlo : leap < 0
      · go_wp2_with fail
        go_ret
        exact ⟨ret1b (by have := HM.out; rw [← this]; simp; omega), by repeat' (first | (with_reducible exact Below.refl _ _) | (with_reducible assumption) | (with_reducible refine below_drewN ?_ _) | (with_reducible refine Below.drew ?_) | (with_reducible refine Below.setCell ?_ ?_ _) | (with_reducible refine Below.alloc ?_ ?_ _) | (simp; done) | (simp; omega) | omega)⟩
      · by_cases hhi : 3 < leap
        · go_wp2_with fail
          go_ret
          exact ⟨ret1b (by have := HM.out; rw [← this]; simp; omega), by repeat' (first | (with_reducible exact Below.refl _ _) | (with_reducible assumption) | (with_reducible refine below_drewN ?_ _) | (with_reducible refine Below.drew ?_) | (with_reducible refine Below.setCell ?_ ?_ _) | (with_reducible refine Below.alloc ?_ ?_ _) | (simp; done) | (simp; omega) | omega)⟩
        · go_wp2_with fail
          go_round
          case rel => exact ⟨1, by omega, rfl, by omega, by omega, by omega, by omega, by omega, by omega⟩
          case measure => simp [intOf]
    · by_cases hlo : ver < 1
      · go_wp2_with fail
        go_ret
        exact ⟨ret1b (by have := HM.out; rw [← this]; simp; omega), by repeat' (first | (with_reducible exact Below.refl _ _) | (with_reducible assumption) | (with_reducible refine below_drewN ?_ _) | (with_reducible refine Below.drew ?_) | (with_reducible refine Below.setCell ?_ ?_ _) | (with_reducible refine Below.alloc ?_ ?_ _) | (simp; done) | (simp; omega) | omega)⟩
      · by_cases hhi : 4 < ver
        · go_wp2_with fail
          go_ret
          exact ⟨ret1b (by have := HM.out; rw [← this]; simp; omega), by repeat' (first | (with_reducible exact Below.refl _ _) | (with_reducible assumption) | (with_reducible refine below_drewN ?_ _) | (with_reducible refine Below.drew ?_) | (with_reducible refine Below.setCell ?_ ?_ _) | (with_reducible refine Below.alloc ?_ ?_ _) | (simp; done) | (simp; omega) | omega)⟩
        · go_wp2_with fail
          go_round
          case rel => exact ⟨2, by omega, rfl, by omega, by omega, by omega, by omega, by omega, by omega⟩
          case measure => simp [intOf]
    · by_cases hlo : mode < 0
      · go_wp2_with fail
        go_ret
        exact ⟨ret1b (by have := HM.out; rw [← this]; simp; omega), by repeat' (first | (with_reducible exact Below.refl _ _) | (with_reducible assumption) | (with_reducible refine below_drewN ?_ _) | (with_reducible refine Below.drew ?_) | (with_reducible refine Below.setCell ?_ ?_ _) | (with_reducible refine Below.alloc ?_ ?_ _) | (simp; done) | (simp; omega) | omega)⟩
      · by_cases hhi : 7 < mode
        · go_wp2_with fail
          go_ret
          exact ⟨ret1b (by have := HM.out; rw [← this]; simp; omega), by repeat' (first | (with_reducible exact Below.refl _ _) | (with_reducible assumption) | (with_reducible refine below_drewN ?_ _) | (with_reducible refine Below.drew ?_) | (with_reducible refine Below.setCell ?_ ?_ _) | (with_reducible refine Below.alloc ?_ ?_ _) | (simp; done) | (simp; omega) | omega)⟩
        · go_wp2_with fail
          go_round
          case rel => exact ⟨3, by omega, rfl, by omega, by omega, by omega, by omega, by omega, by omega⟩
          case measure => simp [intOf]
    · by_cases hlo : str < 0
      · go_wp2_with fail
        go_ret
        exact ⟨ret1b (by have := HM.out; rw [← this]; simp; omega), by repeat' (first | (with_reducible exact Below.refl _ _) | (with_reducible assumption) | (with_reducible refine below_drewN ?_ _) | (with_reducible refine Below.drew ?_) | (with_reducible refine Below.setCell ?_ ?_ _) | (with_reducible refine Below.alloc ?_ ?_ _) | (simp; done) | (simp; omega) | omega)⟩
      · by_cases hhi : 255 < str
        · go_wp2_with fail
          go_ret
          exact ⟨ret1b (by have := HM.out; rw [← this]; simp; omega), by repeat' (first | (with_reducible exact Below.refl _ _) | (with_reducible assumption) | (with_reducible refine below_drewN ?_ _) | (with_reducible refine Below.drew ?_) | (with_reducible refine Below.setCell ?_ ?_ _) | (with_reducible refine Below.alloc ?_ ?_ _) | (simp; done) | (simp; omega) | omega)⟩
        · go_wp2_with fail
          go_round
          case rel => exact ⟨4, by omega, rfl, by omega, by omega, by omega, by omega, by omega, by omega⟩
          case measure => simp [intOf]
    · by_cases hlo : poll < (-128)
      · go_wp2_with fail
        go_ret
        exact ⟨ret1b (by have := HM.out; rw [← this]; simp; omega), by repeat' (first | (with_reducible exact Below.refl _ _) | (with_reducible assumption) | (with_reducible refine below_drewN ?_ _) | (with_reducible refine Below.drew ?_) | (with_reducible refine Below.setCell ?_ ?_ _) | (with_reducible refine Below.alloc ?_ ?_ _) | (simp; done) | (simp; omega) | omega)⟩
      · by_cases hhi : 127 < poll
        · go_wp2_with fail
          go_ret
          exact ⟨ret1b (by have := HM.out; rw [← this]; simp; omega), by repeat' (first | (with_reducible exact Below.refl _ _) | (with_reducible assumption) | (with_reducible refine below_drewN ?_ _) | (with_reducible refine Below.drew ?_) | (with_reducible refine Below.setCell ?_ ?_ _) | (with_reducible refine Below.alloc ?_ ?_ _) | (simp; done) | (simp; omega) | omega)⟩
        · go_wp2_with fail
          go_round
          case rel => exact ⟨5, by omega, rfl, by omega, by omega, by omega, by omega, by omega, by omega⟩
          case measure => simp [intOf]
    · by_cases hlo : prec < (-128)
      · go_wp2_with fail
        go_ret
        exact ⟨ret1b (by have := HM.out; rw [← this]; simp; omega), by repeat' (first | (with_reducible exact Below.refl _ _) | (with_reducible assumption) | (with_reducible refine below_drewN ?_ _) | (with_reducible refine Below.drew ?_) | (with_reducible refine Below.setCell ?_ ?_ _) | (with_reducible refine Below.alloc ?_ ?_ _) | (simp; done) | (simp; omega) | omega)⟩
      · by_cases hhi : 127 < prec
        · go_wp2_with fail
          go_ret
          exact ⟨ret1b (by have := HM.out; rw [← this]; simp; omega), by repeat' (first | (with_reducible exact Below.refl _ _) | (with_reducible assumption) | (with_reducible refine below_drewN ?_ _) | (with_reducible refine Below.drew ?_) | (with_reducible refine Below.setCell ?_ ?_ _) | (with_reducible refine Below.alloc ?_ ?_ _) | (simp; done) | (simp; omega) | omega)⟩
        · go_wp2_with fail
          go_round
          case rel => exact ⟨6, by omega, rfl, by omega, by omega, by omega, by omega, by omega, by omega⟩
          case measure => simp [intOf]
    · go_wp2_with fail
      go_ret
      exact ⟨ret1b (by rw [← HM.out]; simp; omega), by repeat' (first | (with_reducible exact Below.refl _ _) | (with_reducible assumption) | (with_reducible refine below_drewN ?_ _) | (with_reducible refine Below.drew ?_) | (with_reducible refine Below.setCell ?_ ?_ _) | (with_reducible refine Below.alloc ?_ ?_ _) | (simp; done) | (simp; omega) | omega)⟩
end Go.Proofs.YthfgjhffcbehbaaDoor.W
