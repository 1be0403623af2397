/- Layer 12's own code, walked: the tests that a packet may fail. -/
import Derived.Test.YtjelbpibofngiaaCkA
import Derived.Test.YtjelbpibofngiaaRdA
import Derived.Test.YtjelbpibofngiaaEraA
import Derived.Test.YtjelbpibofngiaaEeF
import Derived.Test.YtjelbpibofngiaaQtB
import Derived.Test.YtjelbpibofngiaaChecked
import Derived.WalkKit
import Derived.WalkSpells
import Derived.Lib.Hide
import Derived.Lib.QuietBelow
import Derived.Handy
namespace Go.Proofs.Ytjelbpibofngiaa.W
open Go.RowKit Go.Sort
set_option linter.unusedVariables false
set_option linter.unusedSimpArgs false
theorem bne_not (a b : Int) : (a != b) = !decide (a = b) := rfl
theorem beq_is (a b : Int) : (a == b) = decide (a = b) := rfl
abbrev hdC (h : Hd) : Array Value := #[.int .i64 h.leap, .int .i64 h.ver, .int .i64 h.mode, .int .i64 h.str, .int .i64 h.poll, .int .i64 h.prec, .int .u32 h.rdel, .int .u32 h.rdis, .int .u32 h.ref, .int .u64 h.reft, .int .u64 h.org, .int .u64 h.rcv, .int .u64 h.tx]
abbrev aqC (a : Aq) : Array Value := #[.int .i64 a.ver, .int .u64 a.pend, .int .u64 a.last]
/-- The three arguments in their blocks. -/
theorem args_below (p : Pm) (a : Aq) (h : Hd) (w : World) : Below w.heap.size w (((w.alloc (.cells (pmC p) 23)).alloc (.cells (aqC a) 26)).alloc (.cells (hdC h) 29)) := ((Below.refl _ _).alloc (Nat.le_refl _) _).alloc (by simp) _ |>.alloc (by simp; omega) _
set_option maxRecDepth 100000 in
theorem tver_any (p : Pm) (a : Aq) (h : Hd) (w : World) : Calls Try.prog 48 #[p.val, a.val, h.val] w fun e w' => e = .returned (.bool (decide (h.ver ≠ a.ver))) ∧ Below w.heap.size w w' := by
  have hB := args_below p a h w
  unfold Pm.val Aq.val Hd.val
  go_enter Try.func48, Try.ntmps48
  go_wp2_with fail
  go_ret
  exact ⟨by simp [bne_not], hB⟩
set_option maxRecDepth 100000 in
theorem tmode_any (p : Pm) (a : Aq) (h : Hd) (w : World) : Calls Try.prog 49 #[p.val, a.val, h.val] w fun e w' => e = .returned (.bool (decide (h.mode ≠ 4))) ∧ Below w.heap.size w w' := by
  have hB := args_below p a h w
  unfold Pm.val Aq.val Hd.val
  go_enter Try.func49, Try.ntmps49
  go_wp2_with fail
  go_ret
  exact ⟨by simp [bne_not], hB⟩
set_option maxRecDepth 100000 in
theorem ttwice_any (p : Pm) (a : Aq) (h : Hd) (w : World) : Calls Try.prog 50 #[p.val, a.val, h.val] w fun e w' => e = .returned (.bool (decide (h.tx ≠ 0 ∧ h.tx = a.last))) ∧ Below w.heap.size w w' := by
  have hB := args_below p a h w
  obtain ⟨le, ve, mo, st, po, pr, rd, ri, re, rt, og, rc, tx⟩ := h
  obtain ⟨av, ap, al⟩ := a
  unfold Pm.val Aq.val Hd.val
  dsimp only at *
  by_cases h1 : tx = 0
  · subst h1
    rw [show decide ((0 : Int) ≠ 0 ∧ 0 = al) = false by simp]
    go_enter Try.func50, Try.ntmps50
    go_wp2_with fail
    go_ret
    exact ⟨by first | (simp [beq_is]; done) | (simp [beq_is]; omega), hB⟩
  · rw [show decide (tx ≠ 0 ∧ tx = al) = decide (tx = al) by simp [h1]]
    go_enter Try.func50, Try.ntmps50
    go_wp2_with fail
    go_ret
    exact ⟨by first | (simp [beq_is]; done) | (simp [beq_is]; omega), hB⟩
set_option maxRecDepth 100000 in
set_option maxHeartbeats 1600000 in
theorem tasked_any (p : Pm) (a : Aq) (h : Hd) (w : World) : Calls Try.prog 51 #[p.val, a.val, h.val] w fun e w' => e = .returned (.bool (decide (a.pend = 0 ∨ h.org ≠ a.pend ∨ h.tx = 0 ∨ h.rcv = 0))) ∧ Below w.heap.size w w' := by
  have hB := args_below p a h w
  obtain ⟨le, ve, mo, st, po, pr, rd, ri, re, rt, og, rc, tx⟩ := h
  obtain ⟨av, ap, al⟩ := a
  unfold Pm.val Aq.val Hd.val
  dsimp only at *
  by_cases h1 : ap = 0
  · subst h1
    rw [show decide ((0 : Int) = 0 ∨ og ≠ 0 ∨ tx = 0 ∨ rc = 0) = true by simp]
    go_enter Try.func51, Try.ntmps51
    go_wp2_with fail
    go_ret
    exact ⟨by first | (simp [beq_is]; done) | (simp [beq_is]; omega), hB⟩
  · by_cases h2 : ap = og
    · subst h2
      by_cases h3 : tx = 0
      · subst h3
        rw [show decide (ap = 0 ∨ ap ≠ ap ∨ (0 : Int) = 0 ∨ rc = 0) = true by simp]
        go_enter Try.func51, Try.ntmps51
        go_wp2_with fail
        go_ret
        exact ⟨by first | (simp [beq_is]; done) | (simp [beq_is]; omega), hB⟩
      · rw [show decide (ap = 0 ∨ ap ≠ ap ∨ tx = 0 ∨ rc = 0) = decide (rc = 0) by simp [h1, h3]]
        go_enter Try.func51, Try.ntmps51
        go_wp2_with fail
        go_ret
        exact ⟨by first | (simp [beq_is]; done) | (simp [beq_is]; omega), hB⟩
    · have h2' : ¬ og = ap := fun e => h2 e.symm
      rw [show decide (ap = 0 ∨ og ≠ ap ∨ tx = 0 ∨ rc = 0) = true by simp [h2']]
      go_enter Try.func51, Try.ntmps51
      go_wp2_with fail
      go_ret
      exact ⟨by first | (simp [beq_is]; done) | (simp [beq_is]; omega), hB⟩
set_option maxRecDepth 100000 in
theorem tkiss_any (p : Pm) (a : Aq) (h : Hd) (t : h.Typed) (w : World) : Calls Try.prog 52 #[p.val, a.val, h.val] w fun e w' => e = .returned (.bool (decide (kissI h.str h.ref ≠ 0))) ∧ Below w.heap.size w w' := by
  have hB := args_below p a h w
  have c := ekiss_any h.str h.ref t.str.1 t.str.2 t.ref.1 t.ref.2
  unfold Pm.val Aq.val Hd.val
  generalize kissI h.str h.ref = k at *
  go_enter Try.func52, Try.ntmps52
  go_wp2_with fail
  (with_reducible refine (c _).mono ?_)
  rintro e w1 ⟨rfl, hb⟩
  go_wp2_with fail
  go_ret
  exact ⟨by simp [bne_not], hB.trans (hb.mono hB.size)⟩
set_option maxRecDepth 100000 in
theorem tunset_any (p : Pm) (a : Aq) (h : Hd) (w : World) : Calls Try.prog 53 #[p.val, a.val, h.val] w fun e w' => e = .returned (.bool (decide (h.leap = 3 ∨ 15 < h.str))) ∧ Below w.heap.size w w' := by
  have hB := args_below p a h w
  obtain ⟨le, ve, mo, st, po, pr, rd, ri, re, rt, og, rc, tx⟩ := h
  unfold Pm.val Aq.val Hd.val
  dsimp only at *
  by_cases h1 : le = 3
  · subst h1
    rw [show decide ((3 : Int) = 3 ∨ 15 < st) = true by simp]
    go_enter Try.func53, Try.ntmps53
    go_wp2_with fail
    go_ret
    exact ⟨by first | (simp [beq_is]; done) | (simp [beq_is]; omega), hB⟩
  · rw [show decide (le = 3 ∨ 15 < st) = decide (15 < st) by simp [h1]]
    go_enter Try.func53, Try.ntmps53
    go_wp2_with fail
    go_ret
    exact ⟨by first | (simp [beq_is]; done) | (simp [beq_is]; omega), hB⟩
theorem far_half (n : Int) (h0 : 0 ≤ n) (h1 : n < 4294967296) : shiftI (n * 65536) (-1) = n * 65536 / 2 := by
  unfold shiftI
  rw [if_pos (by decide)]
  show cutI (n * 65536 / 2) = _
  unfold cutI
  omega
set_option maxRecDepth 100000 in
theorem jfar_any (h : Hd) (t : h.Typed) (w : World) : Calls Try.prog 61 #[h.val] w fun e w' => e = .returned (.int .i64 (farI h)) ∧ Below w.heap.size w w' := by
  have hB : Below w.heap.size w (w.alloc (.cells (hdC h) 29)) := (Below.refl _ _).alloc (Nat.le_refl _) _
  have c1 := long_any h.rdel t.rdel.1 t.rdel.2
  have c2 := shift_any (h.rdel * 65536) (-1)
  have c3 := long_any h.rdis t.rdis.1 t.rdis.2
  have c4 := add_any (h.rdel * 65536 / 2) (h.rdis * 65536)
  rw [far_half _ t.rdel.1 t.rdel.2] at c2
  unfold farI
  have b1 := t.rdel
  have b2 := t.rdis
  generalize addI (h.rdel * 65536 / 2) (h.rdis * 65536) = r at *
  unfold Hd.val
  go_enter Try.func61, Try.ntmps61
  go_wp2_with fail
  (with_reducible refine (c1 _).mono ?_)
  rintro e w1 ⟨rfl, rfl⟩
  go_wp2_with fail
  refine (c2 (by omega) (by omega) (by omega) (by omega) _).mono ?_
  rintro e w1 ⟨rfl, rfl⟩
  go_wp2_with fail
  (with_reducible refine (c3 _).mono ?_)
  rintro e w1 ⟨rfl, rfl⟩
  go_wp2_with fail
  refine (c4 (by omega) (by omega) (by omega) (by omega) _).mono ?_
  rintro e w1 ⟨rfl, rfl⟩
  go_wp2_with fail
  go_ret
  exact ⟨rfl, hB⟩
theorem three_in {w : World} {p : Nat} {a0 a1 a2 : Value} {t : TypeId} (h : w.heap[p]? = some (.cells #[a0, a1, a2] t (0, 0))) :
    w.cell? ⟨p, 0, none⟩ = some a0 ∧ w.cell? ⟨p, 1, none⟩ = some a1 ∧ w.cell? ⟨p, 2, none⟩ = some a2 := by
  refine ⟨?_, ?_, ?_⟩ <;> simp [World.cell?, h]
theorem thirteen_in {w : World} {p : Nat} {a0 a1 a2 a3 a4 a5 a6 a7 a8 a9 a10 a11 a12 : Value} {t : TypeId} (h : w.heap[p]? = some (.cells #[a0, a1, a2, a3, a4, a5, a6, a7, a8, a9, a10, a11, a12] t (0, 0))) :
    w.cell? ⟨p, 0, none⟩ = some a0 ∧ w.cell? ⟨p, 1, none⟩ = some a1 ∧ w.cell? ⟨p, 2, none⟩ = some a2 ∧ w.cell? ⟨p, 3, none⟩ = some a3 ∧ w.cell? ⟨p, 4, none⟩ = some a4 ∧ w.cell? ⟨p, 5, none⟩ = some a5 ∧ w.cell? ⟨p, 6, none⟩ = some a6 ∧ w.cell? ⟨p, 7, none⟩ = some a7 ∧ w.cell? ⟨p, 8, none⟩ = some a8 ∧ w.cell? ⟨p, 9, none⟩ = some a9 ∧ w.cell? ⟨p, 10, none⟩ = some a10 ∧ w.cell? ⟨p, 11, none⟩ = some a11 ∧ w.cell? ⟨p, 12, none⟩ = some a12 := by
  refine ⟨?_, ?_, ?_, ?_, ?_, ?_, ?_, ?_, ?_, ?_, ?_, ?_, ?_⟩ <;> simp [World.cell?, h]
end Go.Proofs.Ytjelbpibofngiaa.W
