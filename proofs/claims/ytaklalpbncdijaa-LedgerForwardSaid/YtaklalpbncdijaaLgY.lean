/- The code's own clock, walked: what is made of a sum. -/
import Derived.Test.YtaklalpbncdijaaLgX
namespace Go.Proofs.Ytaklalpbncdijaa.W
open Go.RowKit Go.Sort
set_option linter.unusedVariables false
set_option linter.unusedSimpArgs false
set_option maxHeartbeats 1600000 in
/-- What is made of the sum by a function that reads no more than its captured cells. -/
theorem cmade_any {F : Nat → Prop} {p : Nat} {c : Ck} (ok : c.Ok) (raw : Int) (r0 : -9223372036854775808 ≤ raw) (r1 : raw ≤ 9223372036854775807) (w : World) (hc : CkIn F w p c)
    (k : Nat) (cb : Array Value) (f : Int → Int) (hk : ∀ args w, (callFunc k args).run Try.prog w = .ok (.enter k args) w)
    (hm : ∀ w', Below w.heap.size w w' → Calls (Try.prog) k (#[.int .i64 (tot c raw)] ++ cb) w' fun e w'' => e = .returned (.int .i64 (f (tot c raw))) ∧ Below w'.heap.size w' w'') :
    Calls Try.prog 26 #[.pointer (some ⟨p, 0, none⟩), .int .i64 raw, .func (.func k) #[] cb] w fun e w' =>
      e = .returned (.tuple #[.int .i64 (if totE c raw = 0 then f (tot c raw) else 0), .int .i64 (totE c raw)]) ∧ Below w.heap.size w w' := by
  have d := cfault_any raw w hc
  have HC := Lib.hid hc
  by_cases h : totE c raw = 0
  · obtain ⟨t1, t2, t3⟩ := totE_zero h
    have y := cup_any c ok raw t2 t3
    rw [if_pos h, h]
    rw [h] at d
    clear h hc
    have HM := Lib.hid hm
    clear hm
    generalize hT : tot c raw = t at *
    generalize hU : f t = u at *
    clear hT
    go_enter Try.func26, Try.ntmps26
    go_wp2_with fail
    refine d.mono ?_
    rintro e w' ⟨rfl, rfl⟩
    obtain ⟨hp, hF, v, hb, hs⟩ := HC.out
    obtain ⟨q0, q1, q2, q3, f0, f1, f2, f3⟩ := clock_cells hb
    go_wp2_with fail
    (with_reducible refine (y _).mono ?_)
    rintro e w1 ⟨rfl, hB⟩
    go_wp2_with fail
    refine (HM.out _ hB).mono ?_
    rintro e w2 ⟨rfl, hB2⟩
    go_wp2_with fail
    go_ret2
    exact ⟨rfl, hB.trans (hB2.mono hB.size)⟩
  · rw [if_neg h]
    clear hc hm
    generalize totE c raw = x at *
    go_enter Try.func26, Try.ntmps26
    go_wp2_with fail
    refine d.mono ?_
    rintro e w' ⟨rfl, rfl⟩
    go_wp2_with fail
    go_ret2
    exact ⟨rfl, Below.refl _ _⟩
theorem goes_total (args : Array Value) (w : World) : (callFunc 27 args).run Try.prog w = .ok (.enter 27 args) w := by kernel_rfl
theorem goes_read (args : Array Value) (w : World) : (callFunc 31 args).run Try.prog w = .ok (.enter 31 args) w := by kernel_rfl
theorem goes_since (args : Array Value) (w : World) : (callFunc 36 args).run Try.prog w = .ok (.enter 36 args) w := by kernel_rfl
theorem goes_correct (args : Array Value) (w : World) : (callFunc 33 args).run Try.prog w = .ok (.enter 33 args) w := by kernel_rfl
set_option maxHeartbeats 800000 in
theorem made_total (s : Int) (w : World) : Calls Try.prog 27 #[.int .i64 s] w fun e w' => e = .returned (.int .i64 s) ∧ Below w.heap.size w w' := by
  go_enter Try.func27, Try.ntmps27
  go_wp2
  go_ret
  exact ⟨rfl, Below.refl _ _⟩
set_option maxHeartbeats 800000 in
theorem made_read (s raw : Int) (b : Nat) (s0 : -9223372036854775808 ≤ s) (s1 : s ≤ 9223372036854775807) (r0 : -9223372036854775808 ≤ raw) (r1 : raw ≤ 9223372036854775807) (w : World) (hb : w.cell? ⟨b, 0, none⟩ = some (.int .i64 raw)) :
    Calls Try.prog 31 #[.int .i64 s, .pointer (some ⟨b, 0, none⟩)] w fun e w' => e = .returned (.int .i64 (addI raw s)) ∧ Below w.heap.size w w' := by
  have y := add_any raw s r0 r1 s0 s1
  generalize addI raw s = u at *
  go_enter Try.func31, Try.ntmps31
  go_wp2_with fail
  (with_reducible refine (y _).mono ?_)
  rintro e w' ⟨rfl, rfl⟩
  go_wp2_with fail
  go_ret
  exact ⟨rfl, Below.refl _ _⟩
set_option maxHeartbeats 800000 in
theorem made_since (s t : Int) (b : Nat) (s0 : -9223372036854775808 ≤ s) (s1 : s ≤ 9223372036854775807) (r0 : -9223372036854775808 ≤ t) (r1 : t ≤ 9223372036854775807) (w : World) (hb : w.cell? ⟨b, 0, none⟩ = some (.int .i64 t)) :
    Calls Try.prog 36 #[.int .i64 s, .pointer (some ⟨b, 0, none⟩)] w fun e w' => e = .returned (.int .i64 (subI s t)) ∧ Below w.heap.size w w' := by
  have y := sub_any s t s0 s1 r0 r1
  generalize subI s t = u at *
  go_enter Try.func36, Try.ntmps36
  go_wp2_with fail
  (with_reducible refine (y _).mono ?_)
  rintro e w' ⟨rfl, rfl⟩
  go_wp2_with fail
  go_ret
  exact ⟨rfl, Below.refl _ _⟩
set_option maxHeartbeats 800000 in
theorem made_correct (s t : Int) (b : Nat) (s0 : -9223372036854775808 ≤ s) (s1 : s ≤ 9223372036854775807) (r0 : -9223372036854775808 ≤ t) (r1 : t ≤ 9223372036854775807) (w : World) (hb : w.cell? ⟨b, 0, none⟩ = some (.int .i64 t)) :
    Calls Try.prog 33 #[.int .i64 s, .pointer (some ⟨b, 0, none⟩)] w fun e w' => e = .returned (.int .i64 (addI s t)) ∧ Below w.heap.size w w' := by
  have y := add_any s t s0 s1 r0 r1
  generalize addI s t = u at *
  go_enter Try.func33, Try.ntmps33
  go_wp2_with fail
  (with_reducible refine (y _).mono ?_)
  rintro e w' ⟨rfl, rfl⟩
  go_wp2_with fail
  go_ret
  exact ⟨rfl, Below.refl _ _⟩
set_option maxHeartbeats 1600000 in
theorem ctot_any {F : Nat → Prop} {p : Nat} {c : Ck} (ok : c.Ok) (raw : Int) (r0 : -9223372036854775808 ≤ raw) (r1 : raw ≤ 9223372036854775807) (w : World) (hc : CkIn F w p c) :
    Calls Try.prog 12 #[.pointer (some ⟨p, 0, none⟩), .int .i64 raw] w fun e w' => e = .returned (.tuple #[.int .i64 (totV c raw), .int .i64 (totE c raw)]) ∧ Below w.heap.size w w' := by
  have d := cmade_any ok raw r0 r1 w hc 27 #[] (fun s => s) goes_total (fun w' _ => made_total _ w')
  unfold totV
  generalize (if totE c raw = 0 then tot c raw else 0) = v at *
  generalize totE c raw = x at *
  clear hc ok
  go_enter Try.func12, Try.ntmps12
  go_wp2_with fail
  (with_reducible refine d.mono ?_)
  rintro e w' ⟨rfl, hB⟩
  go_wp2_with fail
  go_ret2
  exact ⟨rfl, hB⟩
set_option maxHeartbeats 1600000 in
theorem cread_any {F : Nat → Prop} {p : Nat} {c : Ck} (ok : c.Ok) (raw : Int) (r0 : -9223372036854775808 ≤ raw) (r1 : raw ≤ 9223372036854775807) (w : World) (hc : CkIn F w p c) :
    Calls Try.prog 17 #[.pointer (some ⟨p, 0, none⟩), .int .i64 raw] w fun e w' => e = .returned (.tuple #[.int .i64 (readV c raw), .int .i64 (totE c raw)]) ∧ Below w.heap.size w w' := by
  obtain ⟨t0, t1⟩ := tot_range c raw
  have hB0 : Below w.heap.size w (w.alloc (.cells #[.int .i64 raw] 2)) := (Below.refl _ _).alloc (Nat.le_refl _) _
  have q : (w.alloc (.cells #[.int .i64 raw] 2)).cell? ⟨w.heap.size, 0, none⟩ = some (.int .i64 raw) := by simp [go_sem]
  have d := cmade_any ok raw r0 r1 _ (hc.below hB0) 31 #[.pointer (some ⟨w.heap.size, 0, none⟩)] (fun s => addI raw s) goes_read
    (fun w' hB => made_read _ raw w.heap.size (by omega) (by omega) r0 r1 w' ((hB.cell (block_lt_of_cell q)).trans q))
  unfold readV
  generalize (if totE c raw = 0 then addI raw (tot c raw) else 0) = v at *
  generalize totE c raw = x at *
  clear hc ok t0 t1
  go_enter Try.func17, Try.ntmps17
  go_wp2_with fail
  (with_reducible refine d.mono ?_)
  rintro e w' ⟨rfl, hB⟩
  go_wp2_with fail
  go_ret2
  exact ⟨rfl, hB0.trans (hB.mono hB0.size)⟩
set_option maxHeartbeats 1600000 in
theorem csince_any {F : Nat → Prop} {p : Nat} {c : Ck} (ok : c.Ok) (raw t : Int) (r0 : -9223372036854775808 ≤ raw) (r1 : raw ≤ 9223372036854775807) (b0 : -9223372036854775808 ≤ t) (b1 : t ≤ 9223372036854775807) (w : World) (hc : CkIn F w p c) :
    Calls Try.prog 19 #[.pointer (some ⟨p, 0, none⟩), .int .i64 raw, .int .i64 t] w fun e w' => e = .returned (.tuple #[.int .i64 (sinV c raw t), .int .i64 (totE c raw)]) ∧ Below w.heap.size w w' := by
  obtain ⟨t0, t1⟩ := tot_range c raw
  have hB0 : Below w.heap.size w (w.alloc (.cells #[.int .i64 t] 2)) := (Below.refl _ _).alloc (Nat.le_refl _) _
  have q : (w.alloc (.cells #[.int .i64 t] 2)).cell? ⟨w.heap.size, 0, none⟩ = some (.int .i64 t) := by simp [go_sem]
  have d := cmade_any ok raw r0 r1 _ (hc.below hB0) 36 #[.pointer (some ⟨w.heap.size, 0, none⟩)] (fun s => subI s t) goes_since
    (fun w' hB => made_since _ t w.heap.size (by omega) (by omega) b0 b1 w' ((hB.cell (block_lt_of_cell q)).trans q))
  unfold sinV
  generalize (if totE c raw = 0 then subI (tot c raw) t else 0) = v at *
  generalize totE c raw = x at *
  clear hc ok t0 t1
  go_enter Try.func19, Try.ntmps19
  go_wp2_with fail
  (with_reducible refine d.mono ?_)
  rintro e w' ⟨rfl, hB⟩
  go_wp2_with fail
  go_ret2
  exact ⟨rfl, hB0.trans (hB.mono hB0.size)⟩
set_option maxHeartbeats 800000 in
theorem cspeed_any {F : Nat → Prop} {p : Nat} {c : Ck} (w : World) (hc : CkIn F w p c) :
    Calls Try.prog 11 #[.pointer (some ⟨p, 0, none⟩)] w fun e w' => e = .returned (.int .i64 c.speed) ∧ Below w.heap.size w w' := by
  obtain ⟨hp, hF, v, hb, _⟩ := hc
  obtain ⟨q0, q1, q2, q3, _⟩ := clock_cells hb
  have hpl : p < w.heap.size := hF p hp
  clear hb hp hF
  go_enter Try.func11, Try.ntmps11
  go_wp2
  go_ret
  exact ⟨rfl, Below.refl _ _⟩
set_option maxHeartbeats 1600000 in
theorem cnew_any (raw : Int) (r0 : -9223372036854775808 ≤ raw) (r1 : raw ≤ 9223372036854775807) (w : World) :
    Calls Try.prog 8 #[.int .i64 raw] w fun e w' => ∃ p, e = .returned (.pointer (some ⟨p, 0, none⟩)) ∧ CkIn (fun k => w.heap.size ≤ k ∧ k < w'.heap.size) w' p (newS raw) ∧ Below w.heap.size w w' := by
  have y := clamp_any raw 0 4611686018427387904 r0 r1 (by omega) (by omega) (by omega) (by omega)
  rw [show clampI raw 0 4611686018427387904 = max 0 (min raw 4611686018427387904) from by unfold clampI; rw [cutI_in _ (by split <;> (try split) <;> omega) (by split <;> (try split) <;> omega)]; split <;> (try split) <;> omega] at y
  unfold newS
  generalize max 0 (min raw 4611686018427387904) = x at *
  go_enter Try.func8, Try.ntmps8
  go_wp2_with fail
  (with_reducible refine (y _).mono ?_)
  rintro e w' ⟨rfl, rfl⟩
  go_wp2_with fail
  go_ret
  exact ⟨w.heap.size, rfl, ⟨⟨Nat.le_refl _, by simp⟩, fun k hk => hk.2, .slice none 0 0, heap_alloc_new _ _, .inl ⟨none, 0, rfl, fun _ => rfl, rfl⟩⟩, Below.alloc (Below.refl _ _) (Nat.le_refl _) _⟩
end Go.Proofs.Ytaklalpbncdijaa.W
