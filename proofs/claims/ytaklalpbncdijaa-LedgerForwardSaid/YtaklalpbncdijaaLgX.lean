/- The code's own clock, walked: what is read of it. -/
import Derived.Test.YtaklalpbncdijaaLgC
import Derived.Test.YtaklalpbncdijaaFixB
import Derived.Test.YtaklalpbncdijaaFixC
namespace Go.Proofs.Ytaklalpbncdijaa.W
open Go.RowKit Go.Sort
set_option linter.unusedVariables false
set_option linter.unusedSimpArgs false
/-- The code's clock at block p; all its blocks are F's. -/
def CkIn (F : Nat → Prop) (w : World) (p : Nat) (c : Ck) : Prop :=
  F p ∧ (∀ k, F k → k < w.heap.size) ∧ ∃ v, w.heap[p]? = some (.cells #[.int .i64 c.last, .int .i64 c.sum, .int .i64 c.speed, v] 57 (0, 0)) ∧ SlAt (fun b => F b ∧ b ≠ p) 3 enE w v c.l
theorem CkIn.kept {F G : Nat → Prop} {w w' : World} {p : Nat} {c : Ck} (h : CkIn F w p c) (t : Touch G w w') (hd : ∀ k, F k → ¬ G k) : CkIn F w' p c := by
  obtain ⟨h1, h2, v, h3, h4⟩ := h
  refine ⟨h1, fun k hk => Nat.lt_of_lt_of_le (h2 k hk) t.size, v, (t.block p (h2 p h1) (hd p h1)).trans h3, h4.kept fun b hb => t.block b (h2 b hb.1) (hd b hb.1)⟩
theorem CkIn.below {F : Nat → Prop} {w w' : World} {p : Nat} {c : Ck} (h : CkIn F w p c) (t : Below w.heap.size w w') : CkIn F w' p c :=
  h.kept (Touch.of_below (fun _ => False) t) (fun _ _ e => e)
theorem CkIn.mono {F G : Nat → Prop} {w : World} {p : Nat} {c : Ck} (h : CkIn F w p c) (hFG : ∀ k, F k → G k) (hG : ∀ k, G k → k < w.heap.size) : CkIn G w p c := by
  obtain ⟨h1, h2, v, h3, h4⟩ := h
  exact ⟨hFG p h1, hG, v, h3, h4.mono fun b hb => ⟨hFG b hb.1, hb.2⟩⟩
theorem CkIn.lt {F : Nat → Prop} {w : World} {p : Nat} {c : Ck} (h : CkIn F w p c) : ∀ k, F k → k < w.heap.size := h.2.1
set_option maxHeartbeats 1600000 in
theorem cfault_any {F : Nat → Prop} {p : Nat} {c : Ck} (raw : Int) (w : World) (hc : CkIn F w p c) :
    Calls Try.prog 40 #[.pointer (some ⟨p, 0, none⟩), .int .i64 raw] w fun e w' => e = .returned (.int .i64 (totE c raw)) ∧ w = w' := by
  obtain ⟨hp, hF, v, hb, _⟩ := hc
  obtain ⟨q0, q1, q2, q3, _⟩ := clock_cells hb
  have hpl : p < w.heap.size := hF p hp
  clear hb hp hF
  by_cases h1 : raw < 0
  · have e1 : totE c raw = 1 := by unfold totE; rw [if_pos (.inl h1)]
    rw [e1]
    clear e1
    go_enter Try.func40, Try.ntmps40
    go_wp2
    go_ret
    exact ⟨rfl, rfl⟩
  · by_cases h2 : 4611686018427387904 < raw
    · have e1 : totE c raw = 1 := by unfold totE; rw [if_pos (.inr h2)]
      rw [e1]
      clear e1
      go_enter Try.func40, Try.ntmps40
      go_wp2
      go_ret
      exact ⟨rfl, rfl⟩
    · by_cases h3 : raw < c.last
      · have e1 : totE c raw = 5 := by unfold totE; rw [if_neg (by omega), if_pos h3]
        rw [e1]
        clear e1
        go_enter Try.func40, Try.ntmps40
        go_wp2
        go_ret
        exact ⟨rfl, rfl⟩
      · have e1 : totE c raw = 0 := by unfold totE; rw [if_neg (by omega), if_neg h3]
        rw [e1]
        clear e1
        go_enter Try.func40, Try.ntmps40
        go_wp2
        go_ret
        exact ⟨rfl, rfl⟩
set_option maxHeartbeats 1600000 in
theorem cwithin_any (a m : Int) (a0 : -9223372036854775808 ≤ a) (a1 : a ≤ 9223372036854775807) (m0 : 0 ≤ m) (m1 : m ≤ 9223372036854775807) (w : World) :
    Calls Try.prog 34 #[.int .i64 a, .int .i64 m] w fun e w' => e = .returned (.bool (decide (-m ≤ a ∧ a ≤ m))) ∧ w = w' := by
  have hw : IntKind.i64.wrap (-m) = -m := by rw [IntKind.wrap_i64]; omega
  by_cases h1 : -m ≤ a
  · by_cases h2 : a ≤ m
    · rw [decide_eq_true (show -m ≤ a ∧ a ≤ m from ⟨h1, h2⟩)]
      go_enter Try.func34, Try.ntmps34
      go_wp2
      go_ret
      exact ⟨rfl, rfl⟩
    · rw [decide_eq_false (show ¬ (-m ≤ a ∧ a ≤ m) from fun h => h2 h.2)]
      go_enter Try.func34, Try.ntmps34
      go_wp2
      go_ret
      exact ⟨rfl, rfl⟩
  · rw [decide_eq_false (show ¬ (-m ≤ a ∧ a ≤ m) from fun h => h1 h.1)]
    go_enter Try.func34, Try.ntmps34
    go_wp2
    go_ret
    exact ⟨rfl, rfl⟩
set_option maxHeartbeats 3200000 in
theorem cup_any (c : Ck) (ok : c.Ok) (raw : Int) (h1 : raw ≤ 4611686018427387904) (h2 : c.last ≤ raw) (w : World) :
    Calls Try.prog 41 #[.agg #[.int .i64 c.last, .int .i64 c.sum, .int .i64 c.speed], .int .i64 raw] w fun e w' => e = .returned (.int .i64 (tot c raw)) ∧ Below w.heap.size w w' := by
  obtain ⟨o1, o2, o3, o4⟩ := ok
  have y0 := sub_any raw c.last (by omega) (by omega) (by omega) (by omega)
  rw [show subI raw c.last = raw - c.last from by unfold subI; exact cutI_in _ (by omega) (by omega)] at y0
  have y1 := fmul_any c.speed (raw - c.last) (by omega) (by omega) (by omega) (by omega)
  have y2 := add_any c.sum (mulI c.speed (raw - c.last)) (by omega) (by omega) (by have := cutI_range (c.speed * (raw - c.last) / 4294967296); unfold mulI; omega) (by have := cutI_range (c.speed * (raw - c.last) / 4294967296); unfold mulI; omega)
  unfold tot
  generalize c.last = a at *
  generalize c.speed = r at *
  generalize c.sum = s at *
  generalize raw - a = d at *
  generalize mulI r d = m at *
  generalize addI s m = t at *
  clear o1 o2 o3 o4 h1 h2
  go_enter Try.func41, Try.ntmps41
  go_wp2_with fail
  have a0 : (w.alloc (.cells #[.int .i64 a, .int .i64 s, .int .i64 r] 55)).cell? ⟨w.heap.size, 0, none⟩ = some (.int .i64 a) := by simp [go_sem]
  have a1 : (w.alloc (.cells #[.int .i64 a, .int .i64 s, .int .i64 r] 55)).cell? ⟨w.heap.size, 1, none⟩ = some (.int .i64 s) := by simp [go_sem]
  have a2 : (w.alloc (.cells #[.int .i64 a, .int .i64 s, .int .i64 r] 55)).cell? ⟨w.heap.size, 2, none⟩ = some (.int .i64 r) := by simp [go_sem]
  have hB : Below w.heap.size w (w.alloc (.cells #[.int .i64 a, .int .i64 s, .int .i64 r] 55)) := Below.alloc (Below.refl _ _) (Nat.le_refl _) _
  generalize w.alloc (.cells #[.int .i64 a, .int .i64 s, .int .i64 r] 55) = wr at *
  have k0 := cell_regrown a0
  have k1 := cell_regrown a1
  have k2 := cell_regrown a2
  have d0 := fun d os => Calls.regrown_of (((y0 (grow (redrawn wr d) os)).mono (fun e w' h => ⟨h.1, h.2 ▸ Below.refl _ _⟩)))
  have d1 := fun d os => Calls.regrown_of (y1 (grow (redrawn wr d) os))
  have d2 := fun d os => Calls.regrown_of (((y2 (grow (redrawn wr d) os)).mono (fun e w' h => ⟨h.1, h.2 ▸ Below.refl _ _⟩)))
  refine wp_region_quiet_below (by kernel_rfl) (by kernel_rfl) ?_
  repeat (quiet_step (first | (with_reducible exact d0 _ _) | (with_reducible exact d1 _ _) | (with_reducible exact d2 _ _)))
  refine wpQuiet_nil ?_
  intro w2 hw
  replace hw := quiet_world hw
  clear d0 d1 d2 k0 k1 k2
  replace hB := hB.trans (hw.mono hB.size)
  go_wp2_with fail
  go_ret
  exact ⟨rfl, hB⟩
end Go.Proofs.Ytaklalpbncdijaa.W
