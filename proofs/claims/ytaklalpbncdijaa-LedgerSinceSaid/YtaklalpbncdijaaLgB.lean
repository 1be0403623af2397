/- The document's own answers of layer 7, walked: a clock that is read and corrected. -/
import Derived.Test.YtaklalpbncdijaaLgA
import Derived.Test.YtaklalpbncdijaaWdefs
import Derived.Test.YtaklalpbncdijaaFixB
import Derived.Test.YtaklalpbncdijaaFixE
import Derived.Test.YtaklalpbncdijaaHdC
import Derived.WalkKit
import Derived.OwnWalk
import Derived.Lib.QuietBelow
import Derived.BigQuiet
import Derived.Deep.DeepCutAuto
import Derived.Deep.RegionHeld3
namespace Go.Proofs.Ytaklalpbncdijaa.W
open Go.RowKit Go.Sort
set_option linter.unusedVariables false
set_option linter.unusedSimpArgs false
/-- The reference's clock at block p; all its blocks are F's. -/
def RkIn (F : Nat → Prop) (w : World) (p : Nat) (c : Ck) : Prop :=
  F p ∧ (∀ k, F k → k < w.heap.size) ∧ ∃ v, w.heap[p]? = some (.cells #[.int .i64 c.last, .int .i64 c.sum, .int .i64 c.speed, v] 34 (0, 0)) ∧ SlAt (fun b => F b ∧ b ≠ p) 3 enE w v c.l
theorem RkIn.kept {F G : Nat → Prop} {w w' : World} {p : Nat} {c : Ck} (h : RkIn F w p c) (t : Touch G w w') (hd : ∀ k, F k → ¬ G k) : RkIn F w' p c := by
  obtain ⟨h1, h2, v, h3, h4⟩ := h
  refine ⟨h1, fun k hk => Nat.lt_of_lt_of_le (h2 k hk) t.size, v, (t.block p (h2 p h1) (hd p h1)).trans h3, h4.kept fun b hb => t.block b (h2 b hb.1) (hd b hb.1)⟩
theorem RkIn.below {F : Nat → Prop} {w w' : World} {p : Nat} {c : Ck} (h : RkIn F w p c) (t : Below w.heap.size w w') : RkIn F w' p c :=
  h.kept (Touch.of_below (fun _ => False) t) (fun _ _ e => e)
theorem clock_cells {w : World} {p : Nat} {a b c d : Value} {t : TypeId} (h : w.heap[p]? = some (.cells #[a, b, c, d] t (0, 0))) :
    w.cell? ⟨p, 0, none⟩ = some a ∧ w.cell? ⟨p, 1, none⟩ = some b ∧ w.cell? ⟨p, 2, none⟩ = some c ∧ w.cell? ⟨p, 3, none⟩ = some d ∧ w.frozen? ⟨p, 0, none⟩ = false ∧ w.frozen? ⟨p, 1, none⟩ = false ∧ w.frozen? ⟨p, 2, none⟩ = false ∧ w.frozen? ⟨p, 3, none⟩ = false := by
  refine ⟨?_, ?_, ?_, ?_, ?_, ?_, ?_, ?_⟩ <;> simp [World.cell?, World.frozen?, h]
set_option maxHeartbeats 3200000 in
theorem rnew_any (raw : Int) (r0 : -9223372036854775808 ≤ raw) (r1 : raw ≤ 9223372036854775807) (w : World) :
    Calls Try.prog 9 #[.int .i64 raw] w fun e w' => e = .returned (.pointer (some ⟨w.heap.size, 0, none⟩)) ∧ RkIn (fun k => k = w.heap.size) w' w.heap.size (newS raw) ∧ Below w.heap.size w w' := by
  have hm : (raw < 0 ∧ max 0 (min raw 4611686018427387904) = 0) ∨ (raw = 0 ∧ max 0 (min raw 4611686018427387904) = 0) ∨ (0 < raw ∧ raw < 4611686018427387904 ∧ max 0 (min raw 4611686018427387904) = raw) ∨ (raw = 4611686018427387904 ∧ max 0 (min raw 4611686018427387904) = 4611686018427387904) ∨ (4611686018427387904 < raw ∧ max 0 (min raw 4611686018427387904) = 4611686018427387904) := by omega
  unfold newS
  generalize max 0 (min raw 4611686018427387904) = y at *
  rcases hm with ⟨h1, rfl⟩ | ⟨rfl, rfl⟩ | ⟨h1, h2, rfl⟩ | ⟨rfl, rfl⟩ | ⟨h1, rfl⟩
  all_goals
    go_enter Try.func9, Try.ntmps9
    go_wp2
    go_ret
    exact ⟨rfl, ⟨rfl, fun k hk => by rw [hk]; simp, .slice none 0 0, heap_alloc_new _ _, .inl ⟨none, 0, rfl, fun _ => rfl, rfl⟩⟩, Below.alloc (Below.refl _ _) (Nat.le_refl _) _⟩
set_option maxHeartbeats 6400000 in
theorem rtot_any {F : Nat → Prop} {p : Nat} {c : Ck} (ok : c.Ok) (raw : Int) (r0 : -9223372036854775808 ≤ raw) (r1 : raw ≤ 9223372036854775807) (w : World) (hc : RkIn F w p c) :
    Calls Try.prog 13 #[.pointer (some ⟨p, 0, none⟩), .int .i64 raw] w fun e w' => e = .returned (.tuple #[.int .i64 (totV c raw), .int .i64 (totE c raw)]) ∧ Below w.heap.size w w' := by
  obtain ⟨hp, hF, v, hb, _⟩ := hc
  obtain ⟨q0, q1, q2, q3, _⟩ := clock_cells hb
  have hpl : p < w.heap.size := hF p hp
  obtain ⟨o1, o2, o3, o4⟩ := ok
  clear hb hp hF
  by_cases h1 : raw < 0
  · have e1 : totE c raw = 1 := by unfold totE; rw [if_pos (.inl h1)]
    have e2 : totV c raw = 0 := by unfold totV; rw [e1]; rfl
    rw [e1, e2]
    clear e1 e2
    go_enter Try.func13, Try.ntmps13
    go_wp2
    go_ret2
    exact ⟨rfl, Below.refl _ _⟩
  · by_cases h2 : 4611686018427387904 < raw
    · have e1 : totE c raw = 1 := by unfold totE; rw [if_pos (.inr h2)]
      have e2 : totV c raw = 0 := by unfold totV; rw [e1]; rfl
      rw [e1, e2]
      clear e1 e2
      go_enter Try.func13, Try.ntmps13
      go_wp2
      go_ret2
      exact ⟨rfl, Below.refl _ _⟩
    · by_cases h3 : raw < c.last
      · have e1 : totE c raw = 5 := by unfold totE; rw [if_neg (by omega), if_pos h3]
        have e2 : totV c raw = 0 := by unfold totV; rw [e1]; rfl
        rw [e1, e2]
        clear e1 e2
        go_enter Try.func13, Try.ntmps13
        go_wp2
        go_ret2
        exact ⟨rfl, Below.refl _ _⟩
      · have e1 : totE c raw = 0 := by unfold totE; rw [if_neg (by omega), if_neg h3]
        have e2 : totV c raw = addI c.sum (mulI c.speed (raw - c.last)) := by unfold totV; rw [e1]; rfl
        have y1 := rfmul_any c.speed (raw - c.last) (by omega) (by omega) (by omega) (by omega)
        have y2 := radd_any c.sum (mulI c.speed (raw - c.last)) (by omega) (by omega) (by have := cutI_range (c.speed * (raw - c.last) / 4294967296); unfold mulI; omega) (by have := cutI_range (c.speed * (raw - c.last) / 4294967296); unfold mulI; omega)
        have u1 : IntKind.i64.wrap (raw - c.last) = raw - c.last := by rw [IntKind.wrap_i64]; omega
        rw [e1, e2]
        clear e1 e2
        generalize mulI c.speed (raw - c.last) = m at *
        generalize addI c.sum m = s at *
        go_enter Try.func13, Try.ntmps13
        go_wp2_with fail
        go_quiet (first | (go_at_call 29; exact quiet_eq (y1 _)) | (go_at_call 28; exact quiet_eq (y2 _)))
        go_wp2_with fail
        go_ret2
        exact ⟨rfl, below_drewN (Below.refl _ _) _⟩
theorem rtot_zero {c : Ck} {raw : Int} (h : totE c raw = 0) : totV c raw = tot c raw := by unfold totV; rw [if_pos h]
theorem tot_range (c : Ck) (raw : Int) : -9223372036854775807 ≤ tot c raw ∧ tot c raw ≤ 9223372036854775807 := cutI_range _
set_option maxHeartbeats 3200000 in
theorem rread_any {F : Nat → Prop} {p : Nat} {c : Ck} (ok : c.Ok) (raw : Int) (r0 : -9223372036854775808 ≤ raw) (r1 : raw ≤ 9223372036854775807) (w : World) (hc : RkIn F w p c) :
    Calls Try.prog 24 #[.pointer (some ⟨p, 0, none⟩), .int .i64 raw] w fun e w' => e = .returned (.tuple #[.int .i64 (readV c raw), .int .i64 (totE c raw)]) ∧ Below w.heap.size w w' := by
  have d := rtot_any ok raw r0 r1 w hc
  by_cases h : totE c raw = 0
  · have e2 : readV c raw = addI raw (tot c raw) := by unfold readV; rw [if_pos h]
    obtain ⟨t0, t1⟩ := tot_range c raw
    have y := radd_any raw (tot c raw) r0 r1 (by omega) (by omega)
    rw [rtot_zero h, h] at d
    rw [e2, h]
    clear e2 h hc ok
    generalize tot c raw = t at *
    generalize addI raw t = u at *
    go_enter Try.func24, Try.ntmps24
    go_wp2_with fail
    refine d.mono ?_
    rintro e w' ⟨rfl, hB⟩
    go_wp2_with fail
    (with_reducible refine (y _).mono ?_)
    rintro e w'' ⟨rfl, rfl⟩
    go_wp2_with fail
    go_ret2
    exact ⟨rfl, hB⟩
  · have e2 : readV c raw = 0 := by unfold readV; rw [if_neg h]
    rw [e2]
    clear e2 hc ok
    generalize totE c raw = x at *
    generalize totV c raw = t at *
    go_enter Try.func24, Try.ntmps24
    go_wp2_with fail
    refine d.mono ?_
    rintro e w' ⟨rfl, hB⟩
    go_wp2_with fail
    go_ret2
    exact ⟨rfl, hB⟩
set_option maxHeartbeats 3200000 in
theorem rsince_any {F : Nat → Prop} {p : Nat} {c : Ck} (ok : c.Ok) (raw t : Int) (r0 : -9223372036854775808 ≤ raw) (r1 : raw ≤ 9223372036854775807) (b0 : -9223372036854775808 ≤ t) (b1 : t ≤ 9223372036854775807) (w : World) (hc : RkIn F w p c) :
    Calls Try.prog 25 #[.pointer (some ⟨p, 0, none⟩), .int .i64 raw, .int .i64 t] w fun e w' => e = .returned (.tuple #[.int .i64 (sinV c raw t), .int .i64 (totE c raw)]) ∧ Below w.heap.size w w' := by
  have d := rtot_any ok raw r0 r1 w hc
  by_cases h : totE c raw = 0
  · have e2 : sinV c raw t = subI (tot c raw) t := by unfold sinV; rw [if_pos h]
    obtain ⟨t0, t1⟩ := tot_range c raw
    have y := rsub_any (tot c raw) t (by omega) (by omega) b0 b1
    rw [rtot_zero h, h] at d
    rw [e2, h]
    clear e2 h hc ok
    generalize tot c raw = s at *
    generalize subI s t = u at *
    go_enter Try.func25, Try.ntmps25
    go_wp2_with fail
    refine d.mono ?_
    rintro e w' ⟨rfl, hB⟩
    go_wp2_with fail
    (with_reducible refine (y _).mono ?_)
    rintro e w'' ⟨rfl, rfl⟩
    go_wp2_with fail
    go_ret2
    exact ⟨rfl, hB⟩
  · have e2 : sinV c raw t = 0 := by unfold sinV; rw [if_neg h]
    rw [e2]
    clear e2 hc ok
    generalize totE c raw = x at *
    generalize totV c raw = s at *
    go_enter Try.func25, Try.ntmps25
    go_wp2_with fail
    refine d.mono ?_
    rintro e w' ⟨rfl, hB⟩
    go_wp2_with fail
    go_ret2
    exact ⟨rfl, hB⟩
end Go.Proofs.Ytaklalpbncdijaa.W
