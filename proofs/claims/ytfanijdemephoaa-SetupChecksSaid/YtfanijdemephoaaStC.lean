/- The document's own answers of layer 10, walked: a field. -/
import Derived.Test.YtfanijdemephoaaStB
import Derived.Deep.DeepCutAuto
import Derived.Lib.Hide
namespace Go.Proofs.Ytfanijdemephoaa.W
open Go.RowKit Go.Sort
set_option linter.unusedVariables false
set_option linter.unusedSimpArgs false
theorem seven (w : World) (o0 o1 o2 o3 o4 o5 o6 : Obj) :
    (((((((w.alloc o0).alloc o1).alloc o2).alloc o3).alloc o4).alloc o5).alloc o6).heap[w.heap.size + 1 + 1 + 1 + 1]? = some o4 ∧
    (((((((w.alloc o0).alloc o1).alloc o2).alloc o3).alloc o4).alloc o5).alloc o6).heap[w.heap.size + 1 + 1 + 1 + 1 + 1]? = some o5 ∧
    (((((((w.alloc o0).alloc o1).alloc o2).alloc o3).alloc o4).alloc o5).alloc o6).heap[w.heap.size + 1 + 1 + 1 + 1 + 1 + 1]? = some o6 ∧
    Below w.heap.size w (((((((w.alloc o0).alloc o1).alloc o2).alloc o3).alloc o4).alloc o5).alloc o6) := by
  have s0 := World.size_alloc w o0
  have s1 := World.size_alloc (w.alloc o0) o1
  have s2 := World.size_alloc ((w.alloc o0).alloc o1) o2
  have s3 := World.size_alloc (((w.alloc o0).alloc o1).alloc o2) o3
  have s4 := World.size_alloc ((((w.alloc o0).alloc o1).alloc o2).alloc o3) o4
  have s5 := World.size_alloc (((((w.alloc o0).alloc o1).alloc o2).alloc o3).alloc o4) o5
  refine ⟨?_, ?_, ?_, ?_⟩
  · rw [Below.heap_alloc _ _ _ (by omega), Below.heap_alloc _ _ _ (by omega)]
    have := heap_alloc_new ((((w.alloc o0).alloc o1).alloc o2).alloc o3) o4
    rw [s3, s2, s1, s0] at this
    exact this
  · rw [Below.heap_alloc _ _ _ (by omega)]
    have := heap_alloc_new (((((w.alloc o0).alloc o1).alloc o2).alloc o3).alloc o4) o5
    rw [s4, s3, s2, s1, s0] at this
    exact this
  · have := heap_alloc_new ((((((w.alloc o0).alloc o1).alloc o2).alloc o3).alloc o4).alloc o5) o6
    rw [s5, s4, s3, s2, s1, s0] at this
    exact this
  · exact ((((((Below.alloc (Below.refl _ _) (Nat.le_refl _) o0).alloc (by omega) o1).alloc (by omega) o2).alloc (by omega) o3).alloc (by omega) o4).alloc (by omega) o5).alloc (by omega) o6
theorem five_at {w : World} {p : Nat} {a b c d e : Value} {t : TypeId} (h : w.heap[p]? = some (.cells #[a, b, c, d, e] t (0, 0))) :
    w.cell? ⟨p, 0, none⟩ = some a ∧ w.cell? ⟨p, 1, none⟩ = some b ∧ w.cell? ⟨p, 2, none⟩ = some c ∧ w.cell? ⟨p, 3, none⟩ = some d ∧ w.cell? ⟨p, 4, none⟩ = some e := by
  refine ⟨?_, ?_, ?_, ?_, ?_⟩ <;> simp [World.cell?, h]
set_option maxRecDepth 100000 in
set_option maxHeartbeats 3200000 in
theorem rown8 (c : Cf) (t : c.Typed) (w : World) : Calls Try.prog 48 #[c.val, .int .i64 8] w fun e w' => e = .returned (.int .i64 (if c.minpoll < 4 ∨ 17 < c.minpoll then 100 else 0)) ∧ Below w.heap.size w w' := by
  unfold Cf.val
  clear t
  obtain ⟨v, hv⟩ : ∃ v : Int, v = (if c.minpoll < 4 ∨ 17 < c.minpoll then 100 else 0) := ⟨_, rfl⟩
  rw [← hv]
  have HV := Lib.hid hv
  clear hv
  obtain ⟨b4, b5, b6, hB⟩ := seven w (.cells #[.float .f64 c.step, .float .f64 c.watch, .float .f64 c.panic, .float .f64 c.maxrate, .float .f64 c.phi, .float .f64 c.maxdist, .float .f64 c.gate, .int .i64 c.minpoll, .int .i64 c.maxpoll, .int .i64 c.burst, .int .i64 c.minsane, .int .i64 c.minleft] 33) (.cells #[.float .f64 c.step, .float .f64 c.watch, .float .f64 c.panic, .float .f64 c.maxrate, .float .f64 c.phi, .float .f64 c.maxdist, .float .f64 c.gate] 22) (.cells #[.float .f64 4562254508917369340, .float .f64 4607182418800017408, .float .f64 4607182418800017408, .float .f64 4517329193108106637, .float .f64 0, .float .f64 4576918229304087675, .float .f64 4607182418800017408] 22) (.cells #[.float .f64 4621819117588971520, .float .f64 4660134898793709568, .float .f64 4681608360884174848, .float .f64 4591870180066957722, .float .f64 4576918229304087675, .float .f64 4625196817309499392, .float .f64 4636737291354636288] 22) (.cells #[.int .i64 c.minpoll, .int .i64 c.maxpoll, .int .i64 c.burst, .int .i64 c.minsane, .int .i64 c.minleft] 3) (.cells #[.int .i64 4, .int .i64 4, .int .i64 0, .int .i64 1, .int .i64 1] 3) (.cells #[.int .i64 17, .int .i64 17, .int .i64 8, .int .i64 10, .int .i64 10] 3)
  obtain ⟨p0, p1, p2, p3, p4⟩ := five_at b4
  obtain ⟨q0, q1, q2, q3, q4⟩ := five_at b5
  obtain ⟨r0, r1, r2, r3, r4⟩ := five_at b6
  clear b4 b5 b6
  go_enter Try.func48, Try.ntmps48
  go_upto_region 10 with fail
  generalize (((((((w.alloc (.cells #[.float .f64 c.step, .float .f64 c.watch, .float .f64 c.panic, .float .f64 c.maxrate, .float .f64 c.phi, .float .f64 c.maxdist, .float .f64 c.gate, .int .i64 c.minpoll, .int .i64 c.maxpoll, .int .i64 c.burst, .int .i64 c.minsane, .int .i64 c.minleft] 33)).alloc (.cells #[.float .f64 c.step, .float .f64 c.watch, .float .f64 c.panic, .float .f64 c.maxrate, .float .f64 c.phi, .float .f64 c.maxdist, .float .f64 c.gate] 22)).alloc (.cells #[.float .f64 4562254508917369340, .float .f64 4607182418800017408, .float .f64 4607182418800017408, .float .f64 4517329193108106637, .float .f64 0, .float .f64 4576918229304087675, .float .f64 4607182418800017408] 22)).alloc (.cells #[.float .f64 4621819117588971520, .float .f64 4660134898793709568, .float .f64 4681608360884174848, .float .f64 4591870180066957722, .float .f64 4576918229304087675, .float .f64 4625196817309499392, .float .f64 4636737291354636288] 22)).alloc (.cells #[.int .i64 c.minpoll, .int .i64 c.maxpoll, .int .i64 c.burst, .int .i64 c.minsane, .int .i64 c.minleft] 3)).alloc (.cells #[.int .i64 4, .int .i64 4, .int .i64 0, .int .i64 1, .int .i64 1] 3)).alloc (.cells #[.int .i64 17, .int .i64 17, .int .i64 8, .int .i64 10, .int .i64 10] 3)) = wr at *
  by_cases h1 : c.minpoll < 4
  · have hv2 : v = 100 := by rw [HV.out, if_pos (.inl h1)]
    have HV2 := Lib.hid hv2
    clear hv2
    go_quiet (fail)
    go_wp2_with fail
    go_ret
    exact ⟨by rw [HV2.out]; rfl, below_drewN hB _⟩
  · by_cases h2 : 17 < c.minpoll
    · have hv2 : v = 100 := by rw [HV.out, if_pos (.inr h2)]
      have HV2 := Lib.hid hv2
      clear hv2
      go_quiet (fail)
      go_wp2_with fail
      go_ret
      exact ⟨by rw [HV2.out]; rfl, below_drewN hB _⟩
    · have hv2 : v = 0 := by rw [HV.out, if_neg (by omega)]
      have HV2 := Lib.hid hv2
      clear hv2
      go_quiet (fail)
      go_wp2_with fail
      go_ret
      exact ⟨by rw [HV2.out]; rfl, below_drewN hB _⟩
set_option maxRecDepth 100000 in
set_option maxHeartbeats 3200000 in
theorem rown9 (c : Cf) (t : c.Typed) (w : World) : Calls Try.prog 48 #[c.val, .int .i64 9] w fun e w' => e = .returned (.int .i64 (if c.maxpoll < 4 ∨ 17 < c.maxpoll then 100 else 0)) ∧ Below w.heap.size w w' := by
  unfold Cf.val
  clear t
  obtain ⟨v, hv⟩ : ∃ v : Int, v = (if c.maxpoll < 4 ∨ 17 < c.maxpoll then 100 else 0) := ⟨_, rfl⟩
  rw [← hv]
  have HV := Lib.hid hv
  clear hv
  obtain ⟨b4, b5, b6, hB⟩ := seven w (.cells #[.float .f64 c.step, .float .f64 c.watch, .float .f64 c.panic, .float .f64 c.maxrate, .float .f64 c.phi, .float .f64 c.maxdist, .float .f64 c.gate, .int .i64 c.minpoll, .int .i64 c.maxpoll, .int .i64 c.burst, .int .i64 c.minsane, .int .i64 c.minleft] 33) (.cells #[.float .f64 c.step, .float .f64 c.watch, .float .f64 c.panic, .float .f64 c.maxrate, .float .f64 c.phi, .float .f64 c.maxdist, .float .f64 c.gate] 22) (.cells #[.float .f64 4562254508917369340, .float .f64 4607182418800017408, .float .f64 4607182418800017408, .float .f64 4517329193108106637, .float .f64 0, .float .f64 4576918229304087675, .float .f64 4607182418800017408] 22) (.cells #[.float .f64 4621819117588971520, .float .f64 4660134898793709568, .float .f64 4681608360884174848, .float .f64 4591870180066957722, .float .f64 4576918229304087675, .float .f64 4625196817309499392, .float .f64 4636737291354636288] 22) (.cells #[.int .i64 c.minpoll, .int .i64 c.maxpoll, .int .i64 c.burst, .int .i64 c.minsane, .int .i64 c.minleft] 3) (.cells #[.int .i64 4, .int .i64 4, .int .i64 0, .int .i64 1, .int .i64 1] 3) (.cells #[.int .i64 17, .int .i64 17, .int .i64 8, .int .i64 10, .int .i64 10] 3)
  obtain ⟨p0, p1, p2, p3, p4⟩ := five_at b4
  obtain ⟨q0, q1, q2, q3, q4⟩ := five_at b5
  obtain ⟨r0, r1, r2, r3, r4⟩ := five_at b6
  clear b4 b5 b6
  go_enter Try.func48, Try.ntmps48
  go_upto_region 10 with fail
  generalize (((((((w.alloc (.cells #[.float .f64 c.step, .float .f64 c.watch, .float .f64 c.panic, .float .f64 c.maxrate, .float .f64 c.phi, .float .f64 c.maxdist, .float .f64 c.gate, .int .i64 c.minpoll, .int .i64 c.maxpoll, .int .i64 c.burst, .int .i64 c.minsane, .int .i64 c.minleft] 33)).alloc (.cells #[.float .f64 c.step, .float .f64 c.watch, .float .f64 c.panic, .float .f64 c.maxrate, .float .f64 c.phi, .float .f64 c.maxdist, .float .f64 c.gate] 22)).alloc (.cells #[.float .f64 4562254508917369340, .float .f64 4607182418800017408, .float .f64 4607182418800017408, .float .f64 4517329193108106637, .float .f64 0, .float .f64 4576918229304087675, .float .f64 4607182418800017408] 22)).alloc (.cells #[.float .f64 4621819117588971520, .float .f64 4660134898793709568, .float .f64 4681608360884174848, .float .f64 4591870180066957722, .float .f64 4576918229304087675, .float .f64 4625196817309499392, .float .f64 4636737291354636288] 22)).alloc (.cells #[.int .i64 c.minpoll, .int .i64 c.maxpoll, .int .i64 c.burst, .int .i64 c.minsane, .int .i64 c.minleft] 3)).alloc (.cells #[.int .i64 4, .int .i64 4, .int .i64 0, .int .i64 1, .int .i64 1] 3)).alloc (.cells #[.int .i64 17, .int .i64 17, .int .i64 8, .int .i64 10, .int .i64 10] 3)) = wr at *
  by_cases h1 : c.maxpoll < 4
  · have hv2 : v = 100 := by rw [HV.out, if_pos (.inl h1)]
    have HV2 := Lib.hid hv2
    clear hv2
    go_quiet (fail)
    go_wp2_with fail
    go_ret
    exact ⟨by rw [HV2.out]; rfl, below_drewN hB _⟩
  · by_cases h2 : 17 < c.maxpoll
    · have hv2 : v = 100 := by rw [HV.out, if_pos (.inr h2)]
      have HV2 := Lib.hid hv2
      clear hv2
      go_quiet (fail)
      go_wp2_with fail
      go_ret
      exact ⟨by rw [HV2.out]; rfl, below_drewN hB _⟩
    · have hv2 : v = 0 := by rw [HV.out, if_neg (by omega)]
      have HV2 := Lib.hid hv2
      clear hv2
      go_quiet (fail)
      go_wp2_with fail
      go_ret
      exact ⟨by rw [HV2.out]; rfl, below_drewN hB _⟩
set_option maxRecDepth 100000 in
set_option maxHeartbeats 3200000 in
theorem rown10 (c : Cf) (t : c.Typed) (w : World) : Calls Try.prog 48 #[c.val, .int .i64 10] w fun e w' => e = .returned (.int .i64 (if c.burst < 0 ∨ 8 < c.burst then 100 else 0)) ∧ Below w.heap.size w w' := by
  unfold Cf.val
  clear t
  obtain ⟨v, hv⟩ : ∃ v : Int, v = (if c.burst < 0 ∨ 8 < c.burst then 100 else 0) := ⟨_, rfl⟩
  rw [← hv]
  have HV := Lib.hid hv
  clear hv
  obtain ⟨b4, b5, b6, hB⟩ := seven w (.cells #[.float .f64 c.step, .float .f64 c.watch, .float .f64 c.panic, .float .f64 c.maxrate, .float .f64 c.phi, .float .f64 c.maxdist, .float .f64 c.gate, .int .i64 c.minpoll, .int .i64 c.maxpoll, .int .i64 c.burst, .int .i64 c.minsane, .int .i64 c.minleft] 33) (.cells #[.float .f64 c.step, .float .f64 c.watch, .float .f64 c.panic, .float .f64 c.maxrate, .float .f64 c.phi, .float .f64 c.maxdist, .float .f64 c.gate] 22) (.cells #[.float .f64 4562254508917369340, .float .f64 4607182418800017408, .float .f64 4607182418800017408, .float .f64 4517329193108106637, .float .f64 0, .float .f64 4576918229304087675, .float .f64 4607182418800017408] 22) (.cells #[.float .f64 4621819117588971520, .float .f64 4660134898793709568, .float .f64 4681608360884174848, .float .f64 4591870180066957722, .float .f64 4576918229304087675, .float .f64 4625196817309499392, .float .f64 4636737291354636288] 22) (.cells #[.int .i64 c.minpoll, .int .i64 c.maxpoll, .int .i64 c.burst, .int .i64 c.minsane, .int .i64 c.minleft] 3) (.cells #[.int .i64 4, .int .i64 4, .int .i64 0, .int .i64 1, .int .i64 1] 3) (.cells #[.int .i64 17, .int .i64 17, .int .i64 8, .int .i64 10, .int .i64 10] 3)
  obtain ⟨p0, p1, p2, p3, p4⟩ := five_at b4
  obtain ⟨q0, q1, q2, q3, q4⟩ := five_at b5
  obtain ⟨r0, r1, r2, r3, r4⟩ := five_at b6
  clear b4 b5 b6
  go_enter Try.func48, Try.ntmps48
  go_upto_region 10 with fail
  generalize (((((((w.alloc (.cells #[.float .f64 c.step, .float .f64 c.watch, .float .f64 c.panic, .float .f64 c.maxrate, .float .f64 c.phi, .float .f64 c.maxdist, .float .f64 c.gate, .int .i64 c.minpoll, .int .i64 c.maxpoll, .int .i64 c.burst, .int .i64 c.minsane, .int .i64 c.minleft] 33)).alloc (.cells #[.float .f64 c.step, .float .f64 c.watch, .float .f64 c.panic, .float .f64 c.maxrate, .float .f64 c.phi, .float .f64 c.maxdist, .float .f64 c.gate] 22)).alloc (.cells #[.float .f64 4562254508917369340, .float .f64 4607182418800017408, .float .f64 4607182418800017408, .float .f64 4517329193108106637, .float .f64 0, .float .f64 4576918229304087675, .float .f64 4607182418800017408] 22)).alloc (.cells #[.float .f64 4621819117588971520, .float .f64 4660134898793709568, .float .f64 4681608360884174848, .float .f64 4591870180066957722, .float .f64 4576918229304087675, .float .f64 4625196817309499392, .float .f64 4636737291354636288] 22)).alloc (.cells #[.int .i64 c.minpoll, .int .i64 c.maxpoll, .int .i64 c.burst, .int .i64 c.minsane, .int .i64 c.minleft] 3)).alloc (.cells #[.int .i64 4, .int .i64 4, .int .i64 0, .int .i64 1, .int .i64 1] 3)).alloc (.cells #[.int .i64 17, .int .i64 17, .int .i64 8, .int .i64 10, .int .i64 10] 3)) = wr at *
  by_cases h1 : c.burst < 0
  · have hv2 : v = 100 := by rw [HV.out, if_pos (.inl h1)]
    have HV2 := Lib.hid hv2
    clear hv2
    go_quiet (fail)
    go_wp2_with fail
    go_ret
    exact ⟨by rw [HV2.out]; rfl, below_drewN hB _⟩
  · by_cases h2 : 8 < c.burst
    · have hv2 : v = 100 := by rw [HV.out, if_pos (.inr h2)]
      have HV2 := Lib.hid hv2
      clear hv2
      go_quiet (fail)
      go_wp2_with fail
      go_ret
      exact ⟨by rw [HV2.out]; rfl, below_drewN hB _⟩
    · have hv2 : v = 0 := by rw [HV.out, if_neg (by omega)]
      have HV2 := Lib.hid hv2
      clear hv2
      go_quiet (fail)
      go_wp2_with fail
      go_ret
      exact ⟨by rw [HV2.out]; rfl, below_drewN hB _⟩
set_option maxRecDepth 100000 in
set_option maxHeartbeats 3200000 in
theorem rown11 (c : Cf) (t : c.Typed) (w : World) : Calls Try.prog 48 #[c.val, .int .i64 11] w fun e w' => e = .returned (.int .i64 (if c.minsane < 1 ∨ 10 < c.minsane then 100 else 0)) ∧ Below w.heap.size w w' := by
  unfold Cf.val
  clear t
  obtain ⟨v, hv⟩ : ∃ v : Int, v = (if c.minsane < 1 ∨ 10 < c.minsane then 100 else 0) := ⟨_, rfl⟩
  rw [← hv]
  have HV := Lib.hid hv
  clear hv
  obtain ⟨b4, b5, b6, hB⟩ := seven w (.cells #[.float .f64 c.step, .float .f64 c.watch, .float .f64 c.panic, .float .f64 c.maxrate, .float .f64 c.phi, .float .f64 c.maxdist, .float .f64 c.gate, .int .i64 c.minpoll, .int .i64 c.maxpoll, .int .i64 c.burst, .int .i64 c.minsane, .int .i64 c.minleft] 33) (.cells #[.float .f64 c.step, .float .f64 c.watch, .float .f64 c.panic, .float .f64 c.maxrate, .float .f64 c.phi, .float .f64 c.maxdist, .float .f64 c.gate] 22) (.cells #[.float .f64 4562254508917369340, .float .f64 4607182418800017408, .float .f64 4607182418800017408, .float .f64 4517329193108106637, .float .f64 0, .float .f64 4576918229304087675, .float .f64 4607182418800017408] 22) (.cells #[.float .f64 4621819117588971520, .float .f64 4660134898793709568, .float .f64 4681608360884174848, .float .f64 4591870180066957722, .float .f64 4576918229304087675, .float .f64 4625196817309499392, .float .f64 4636737291354636288] 22) (.cells #[.int .i64 c.minpoll, .int .i64 c.maxpoll, .int .i64 c.burst, .int .i64 c.minsane, .int .i64 c.minleft] 3) (.cells #[.int .i64 4, .int .i64 4, .int .i64 0, .int .i64 1, .int .i64 1] 3) (.cells #[.int .i64 17, .int .i64 17, .int .i64 8, .int .i64 10, .int .i64 10] 3)
  obtain ⟨p0, p1, p2, p3, p4⟩ := five_at b4
  obtain ⟨q0, q1, q2, q3, q4⟩ := five_at b5
  obtain ⟨r0, r1, r2, r3, r4⟩ := five_at b6
  clear b4 b5 b6
  go_enter Try.func48, Try.ntmps48
  go_upto_region 10 with fail
  generalize (((((((w.alloc (.cells #[.float .f64 c.step, .float .f64 c.watch, .float .f64 c.panic, .float .f64 c.maxrate, .float .f64 c.phi, .float .f64 c.maxdist, .float .f64 c.gate, .int .i64 c.minpoll, .int .i64 c.maxpoll, .int .i64 c.burst, .int .i64 c.minsane, .int .i64 c.minleft] 33)).alloc (.cells #[.float .f64 c.step, .float .f64 c.watch, .float .f64 c.panic, .float .f64 c.maxrate, .float .f64 c.phi, .float .f64 c.maxdist, .float .f64 c.gate] 22)).alloc (.cells #[.float .f64 4562254508917369340, .float .f64 4607182418800017408, .float .f64 4607182418800017408, .float .f64 4517329193108106637, .float .f64 0, .float .f64 4576918229304087675, .float .f64 4607182418800017408] 22)).alloc (.cells #[.float .f64 4621819117588971520, .float .f64 4660134898793709568, .float .f64 4681608360884174848, .float .f64 4591870180066957722, .float .f64 4576918229304087675, .float .f64 4625196817309499392, .float .f64 4636737291354636288] 22)).alloc (.cells #[.int .i64 c.minpoll, .int .i64 c.maxpoll, .int .i64 c.burst, .int .i64 c.minsane, .int .i64 c.minleft] 3)).alloc (.cells #[.int .i64 4, .int .i64 4, .int .i64 0, .int .i64 1, .int .i64 1] 3)).alloc (.cells #[.int .i64 17, .int .i64 17, .int .i64 8, .int .i64 10, .int .i64 10] 3)) = wr at *
  by_cases h1 : c.minsane < 1
  · have hv2 : v = 100 := by rw [HV.out, if_pos (.inl h1)]
    have HV2 := Lib.hid hv2
    clear hv2
    go_quiet (fail)
    go_wp2_with fail
    go_ret
    exact ⟨by rw [HV2.out]; rfl, below_drewN hB _⟩
  · by_cases h2 : 10 < c.minsane
    · have hv2 : v = 100 := by rw [HV.out, if_pos (.inr h2)]
      have HV2 := Lib.hid hv2
      clear hv2
      go_quiet (fail)
      go_wp2_with fail
      go_ret
      exact ⟨by rw [HV2.out]; rfl, below_drewN hB _⟩
    · have hv2 : v = 0 := by rw [HV.out, if_neg (by omega)]
      have HV2 := Lib.hid hv2
      clear hv2
      go_quiet (fail)
      go_wp2_with fail
      go_ret
      exact ⟨by rw [HV2.out]; rfl, below_drewN hB _⟩
set_option maxRecDepth 100000 in
set_option maxHeartbeats 3200000 in
theorem rown12 (c : Cf) (t : c.Typed) (w : World) : Calls Try.prog 48 #[c.val, .int .i64 12] w fun e w' => e = .returned (.int .i64 (if c.minleft < 1 ∨ 10 < c.minleft then 100 else 0)) ∧ Below w.heap.size w w' := by
  unfold Cf.val
  clear t
  obtain ⟨v, hv⟩ : ∃ v : Int, v = (if c.minleft < 1 ∨ 10 < c.minleft then 100 else 0) := ⟨_, rfl⟩
  rw [← hv]
  have HV := Lib.hid hv
  clear hv
  obtain ⟨b4, b5, b6, hB⟩ := seven w (.cells #[.float .f64 c.step, .float .f64 c.watch, .float .f64 c.panic, .float .f64 c.maxrate, .float .f64 c.phi, .float .f64 c.maxdist, .float .f64 c.gate, .int .i64 c.minpoll, .int .i64 c.maxpoll, .int .i64 c.burst, .int .i64 c.minsane, .int .i64 c.minleft] 33) (.cells #[.float .f64 c.step, .float .f64 c.watch, .float .f64 c.panic, .float .f64 c.maxrate, .float .f64 c.phi, .float .f64 c.maxdist, .float .f64 c.gate] 22) (.cells #[.float .f64 4562254508917369340, .float .f64 4607182418800017408, .float .f64 4607182418800017408, .float .f64 4517329193108106637, .float .f64 0, .float .f64 4576918229304087675, .float .f64 4607182418800017408] 22) (.cells #[.float .f64 4621819117588971520, .float .f64 4660134898793709568, .float .f64 4681608360884174848, .float .f64 4591870180066957722, .float .f64 4576918229304087675, .float .f64 4625196817309499392, .float .f64 4636737291354636288] 22) (.cells #[.int .i64 c.minpoll, .int .i64 c.maxpoll, .int .i64 c.burst, .int .i64 c.minsane, .int .i64 c.minleft] 3) (.cells #[.int .i64 4, .int .i64 4, .int .i64 0, .int .i64 1, .int .i64 1] 3) (.cells #[.int .i64 17, .int .i64 17, .int .i64 8, .int .i64 10, .int .i64 10] 3)
  obtain ⟨p0, p1, p2, p3, p4⟩ := five_at b4
  obtain ⟨q0, q1, q2, q3, q4⟩ := five_at b5
  obtain ⟨r0, r1, r2, r3, r4⟩ := five_at b6
  clear b4 b5 b6
  go_enter Try.func48, Try.ntmps48
  go_upto_region 10 with fail
  generalize (((((((w.alloc (.cells #[.float .f64 c.step, .float .f64 c.watch, .float .f64 c.panic, .float .f64 c.maxrate, .float .f64 c.phi, .float .f64 c.maxdist, .float .f64 c.gate, .int .i64 c.minpoll, .int .i64 c.maxpoll, .int .i64 c.burst, .int .i64 c.minsane, .int .i64 c.minleft] 33)).alloc (.cells #[.float .f64 c.step, .float .f64 c.watch, .float .f64 c.panic, .float .f64 c.maxrate, .float .f64 c.phi, .float .f64 c.maxdist, .float .f64 c.gate] 22)).alloc (.cells #[.float .f64 4562254508917369340, .float .f64 4607182418800017408, .float .f64 4607182418800017408, .float .f64 4517329193108106637, .float .f64 0, .float .f64 4576918229304087675, .float .f64 4607182418800017408] 22)).alloc (.cells #[.float .f64 4621819117588971520, .float .f64 4660134898793709568, .float .f64 4681608360884174848, .float .f64 4591870180066957722, .float .f64 4576918229304087675, .float .f64 4625196817309499392, .float .f64 4636737291354636288] 22)).alloc (.cells #[.int .i64 c.minpoll, .int .i64 c.maxpoll, .int .i64 c.burst, .int .i64 c.minsane, .int .i64 c.minleft] 3)).alloc (.cells #[.int .i64 4, .int .i64 4, .int .i64 0, .int .i64 1, .int .i64 1] 3)).alloc (.cells #[.int .i64 17, .int .i64 17, .int .i64 8, .int .i64 10, .int .i64 10] 3)) = wr at *
  by_cases h1 : c.minleft < 1
  · have hv2 : v = 100 := by rw [HV.out, if_pos (.inl h1)]
    have HV2 := Lib.hid hv2
    clear hv2
    go_quiet (fail)
    go_wp2_with fail
    go_ret
    exact ⟨by rw [HV2.out]; rfl, below_drewN hB _⟩
  · by_cases h2 : 10 < c.minleft
    · have hv2 : v = 100 := by rw [HV.out, if_pos (.inr h2)]
      have HV2 := Lib.hid hv2
      clear hv2
      go_quiet (fail)
      go_wp2_with fail
      go_ret
      exact ⟨by rw [HV2.out]; rfl, below_drewN hB _⟩
    · have hv2 : v = 0 := by rw [HV.out, if_neg (by omega)]
      have HV2 := Lib.hid hv2
      clear hv2
      go_quiet (fail)
      go_wp2_with fail
      go_ret
      exact ⟨by rw [HV2.out]; rfl, below_drewN hB _⟩
theorem own_at1 (c : Cf) : ownE c 1 = (wiE c.step 4562254508917369340 4621819117588971520) := by unfold ownE; rw [if_pos rfl]
theorem own_at2 (c : Cf) : ownE c 2 = (wiE c.watch 4607182418800017408 4660134898793709568) := by unfold ownE; rw [if_neg (show ¬ (2 : Nat) = 1 by decide)]; rw [if_pos rfl]
theorem own_at3 (c : Cf) : ownE c 3 = (wiE c.panic 4607182418800017408 4681608360884174848) := by unfold ownE; rw [if_neg (show ¬ (3 : Nat) = 1 by decide)]; rw [if_neg (show ¬ (3 : Nat) = 2 by decide)]; rw [if_pos rfl]
theorem own_at4 (c : Cf) : ownE c 4 = (wiE c.maxrate 4517329193108106637 4591870180066957722) := by unfold ownE; rw [if_neg (show ¬ (4 : Nat) = 1 by decide)]; rw [if_neg (show ¬ (4 : Nat) = 2 by decide)]; rw [if_neg (show ¬ (4 : Nat) = 3 by decide)]; rw [if_pos rfl]
theorem own_at5 (c : Cf) : ownE c 5 = (wiE c.phi 0 4576918229304087675) := by unfold ownE; rw [if_neg (show ¬ (5 : Nat) = 1 by decide)]; rw [if_neg (show ¬ (5 : Nat) = 2 by decide)]; rw [if_neg (show ¬ (5 : Nat) = 3 by decide)]; rw [if_neg (show ¬ (5 : Nat) = 4 by decide)]; rw [if_pos rfl]
theorem own_at6 (c : Cf) : ownE c 6 = (wiE c.maxdist 4576918229304087675 4625196817309499392) := by unfold ownE; rw [if_neg (show ¬ (6 : Nat) = 1 by decide)]; rw [if_neg (show ¬ (6 : Nat) = 2 by decide)]; rw [if_neg (show ¬ (6 : Nat) = 3 by decide)]; rw [if_neg (show ¬ (6 : Nat) = 4 by decide)]; rw [if_neg (show ¬ (6 : Nat) = 5 by decide)]; rw [if_pos rfl]
theorem own_at7 (c : Cf) : ownE c 7 = (wiE c.gate 4607182418800017408 4636737291354636288) := by unfold ownE; rw [if_neg (show ¬ (7 : Nat) = 1 by decide)]; rw [if_neg (show ¬ (7 : Nat) = 2 by decide)]; rw [if_neg (show ¬ (7 : Nat) = 3 by decide)]; rw [if_neg (show ¬ (7 : Nat) = 4 by decide)]; rw [if_neg (show ¬ (7 : Nat) = 5 by decide)]; rw [if_neg (show ¬ (7 : Nat) = 6 by decide)]; rw [if_pos rfl]
theorem own_at8 (c : Cf) : ownE c 8 = (if c.minpoll < 4 ∨ 17 < c.minpoll then 100 else 0) := by unfold ownE; rw [if_neg (show ¬ (8 : Nat) = 1 by decide)]; rw [if_neg (show ¬ (8 : Nat) = 2 by decide)]; rw [if_neg (show ¬ (8 : Nat) = 3 by decide)]; rw [if_neg (show ¬ (8 : Nat) = 4 by decide)]; rw [if_neg (show ¬ (8 : Nat) = 5 by decide)]; rw [if_neg (show ¬ (8 : Nat) = 6 by decide)]; rw [if_neg (show ¬ (8 : Nat) = 7 by decide)]; rw [if_pos rfl]
theorem own_at9 (c : Cf) : ownE c 9 = (if c.maxpoll < 4 ∨ 17 < c.maxpoll then 100 else 0) := by unfold ownE; rw [if_neg (show ¬ (9 : Nat) = 1 by decide)]; rw [if_neg (show ¬ (9 : Nat) = 2 by decide)]; rw [if_neg (show ¬ (9 : Nat) = 3 by decide)]; rw [if_neg (show ¬ (9 : Nat) = 4 by decide)]; rw [if_neg (show ¬ (9 : Nat) = 5 by decide)]; rw [if_neg (show ¬ (9 : Nat) = 6 by decide)]; rw [if_neg (show ¬ (9 : Nat) = 7 by decide)]; rw [if_neg (show ¬ (9 : Nat) = 8 by decide)]; rw [if_pos rfl]
theorem own_at10 (c : Cf) : ownE c 10 = (if c.burst < 0 ∨ 8 < c.burst then 100 else 0) := by unfold ownE; rw [if_neg (show ¬ (10 : Nat) = 1 by decide)]; rw [if_neg (show ¬ (10 : Nat) = 2 by decide)]; rw [if_neg (show ¬ (10 : Nat) = 3 by decide)]; rw [if_neg (show ¬ (10 : Nat) = 4 by decide)]; rw [if_neg (show ¬ (10 : Nat) = 5 by decide)]; rw [if_neg (show ¬ (10 : Nat) = 6 by decide)]; rw [if_neg (show ¬ (10 : Nat) = 7 by decide)]; rw [if_neg (show ¬ (10 : Nat) = 8 by decide)]; rw [if_neg (show ¬ (10 : Nat) = 9 by decide)]; rw [if_pos rfl]
theorem own_at11 (c : Cf) : ownE c 11 = (if c.minsane < 1 ∨ 10 < c.minsane then 100 else 0) := by unfold ownE; rw [if_neg (show ¬ (11 : Nat) = 1 by decide)]; rw [if_neg (show ¬ (11 : Nat) = 2 by decide)]; rw [if_neg (show ¬ (11 : Nat) = 3 by decide)]; rw [if_neg (show ¬ (11 : Nat) = 4 by decide)]; rw [if_neg (show ¬ (11 : Nat) = 5 by decide)]; rw [if_neg (show ¬ (11 : Nat) = 6 by decide)]; rw [if_neg (show ¬ (11 : Nat) = 7 by decide)]; rw [if_neg (show ¬ (11 : Nat) = 8 by decide)]; rw [if_neg (show ¬ (11 : Nat) = 9 by decide)]; rw [if_neg (show ¬ (11 : Nat) = 10 by decide)]; rw [if_pos rfl]
theorem own_at12 (c : Cf) : ownE c 12 = (if c.minleft < 1 ∨ 10 < c.minleft then 100 else 0) := by unfold ownE; rw [if_neg (show ¬ (12 : Nat) = 1 by decide)]; rw [if_neg (show ¬ (12 : Nat) = 2 by decide)]; rw [if_neg (show ¬ (12 : Nat) = 3 by decide)]; rw [if_neg (show ¬ (12 : Nat) = 4 by decide)]; rw [if_neg (show ¬ (12 : Nat) = 5 by decide)]; rw [if_neg (show ¬ (12 : Nat) = 6 by decide)]; rw [if_neg (show ¬ (12 : Nat) = 7 by decide)]; rw [if_neg (show ¬ (12 : Nat) = 8 by decide)]; rw [if_neg (show ¬ (12 : Nat) = 9 by decide)]; rw [if_neg (show ¬ (12 : Nat) = 10 by decide)]; rw [if_neg (show ¬ (12 : Nat) = 11 by decide)]
theorem rown_any (c : Cf) (t : c.Typed) (k : Nat) (k0 : 1 ≤ k) (k1 : k ≤ 12) (w : World) : Calls Try.prog 48 #[c.val, .int .i64 k] w fun e w' => e = .returned (.int .i64 (ownE c k)) ∧ Below w.heap.size w w' := by
  have h : k = 1 ∨ k = 2 ∨ k = 3 ∨ k = 4 ∨ k = 5 ∨ k = 6 ∨ k = 7 ∨ k = 8 ∨ k = 9 ∨ k = 10 ∨ k = 11 ∨ k = 12 := by omega
  rcases h with rfl | rfl | rfl | rfl | rfl | rfl | rfl | rfl | rfl | rfl | rfl | rfl
  · rw [own_at1]; exact rown1 c t w
  · rw [own_at2]; exact rown2 c t w
  · rw [own_at3]; exact rown3 c t w
  · rw [own_at4]; exact rown4 c t w
  · rw [own_at5]; exact rown5 c t w
  · rw [own_at6]; exact rown6 c t w
  · rw [own_at7]; exact rown7 c t w
  · rw [own_at8]; exact rown8 c t w
  · rw [own_at9]; exact rown9 c t w
  · rw [own_at10]; exact rown10 c t w
  · rw [own_at11]; exact rown11 c t w
  · rw [own_at12]; exact rown12 c t w
end Go.Proofs.Ytfanijdemephoaa.W
