/- Layer 18's own code, walked: means and jitters. -/
import Derived.Test.YtekdablolacgfaaCqE
namespace Go.Proofs.Ytekdablolacgfaa.W
open Go.RowKit Go.Sort
set_option linter.unusedVariables false
set_option linter.unusedSimpArgs false
theorem acc_self (o d : List Int) : ∀ n, accO (fun x => x) (pairs18 o d n) = sumO o d n
  | 0 => rfl
  | n + 1 => by rw [pairs_succ18, accO_snoc, acc_self o d n]; rfl
theorem acc_w (o d : List Int) : ∀ n, accW (pairs18 o d n) = sumW d n
  | 0 => rfl
  | n + 1 => by rw [pairs_succ18, accW_snoc, acc_w o d n]; rfl
theorem mul_swap18 (a b : Int) : mulI a b = mulI b a := by unfold mulI; rw [Int.mul_comm]
theorem acc_sq (o d : List Int) (a : Int) : ∀ n, accO (sqI a) (pairs18 o d n) = sumJ o d a n
  | 0 => rfl
  | n + 1 => by
    rw [pairs_succ18, accO_snoc, acc_sq o d a n, mul_swap18]
    rfl
theorem two_at18 {w : World} {b : Nat} {x y : Value} {t : TypeId} (h : w.heap[b]? = some (.cells #[x, y] t (0, 0))) : w.cell? ⟨b, 0, none⟩ = some x ∧ w.cell? ⟨b, 1, none⟩ = some y := by constructor <;> simp [World.cell?, h]
set_option maxRecDepth 100000 in
set_option maxHeartbeats 6400000 in
theorem cmean_any (o d : List Int) (ho : o.length ≤ 60) (hd : d.length ≤ 60) (tx : ∀ x ∈ o, -9223372036854775808 ≤ x ∧ x ≤ 9223372036854775807) (td : ∀ x ∈ d, -9223372036854775808 ≤ x ∧ x ≤ 9223372036854775807) (lo hi : Int) (l0 : -9223372036854775808 ≤ lo ∧ lo ≤ 9223372036854775807) (h0 : -9223372036854775808 ≤ hi ∧ hi ≤ 9223372036854775807) {F G : Nat → Prop} {vo vd : Value} (w : World) (so : SlAt F 1 (oneE .i64) w vo o) (sd : SlAt G 1 (oneE .i64) w vd d) (hF : ∀ b, F b → b < w.heap.size) (hG : ∀ b, G b → b < w.heap.size) :
    Calls Try.prog 8 #[vo, vd, .agg #[.int .i64 lo, .int .i64 hi]] w fun e w' => e = .returned (.int .i64 (meanC o d lo hi)) ∧ Below w.heap.size w w' := by
  have x0 := heap_alloc_new w (.cells #[.int .i64 lo, .int .i64 hi] 24)
  have B0 := (Below.refl w.heap.size w).alloc (Nat.le_refl _) (.cells #[.int .i64 lo, .int .i64 hi] 24)
  have z0 := World.size_alloc w (.cells #[.int .i64 lo, .int .i64 hi] 24)
  have so0 := so.kept fun b hb => B0.block b (hF b hb)
  have sd0 := sd.kept fun b hb => B0.block b (hG b hb)
  have cW := cweigh_any o d ho hd tx td 20 #[] enters_self (fun x => x) (fun x hx => hx) _ so0 sd0 (fun b hb => Nat.lt_of_lt_of_le (hF b hb) B0.size) (fun b hb => Nat.lt_of_lt_of_le (hG b hb) B0.size) (fun W _ x _ => cself_any x W)
  obtain ⟨xo, co, rfl⟩ := so.slice
  obtain ⟨xd, cd, rfl⟩ := sd.slice
  rw [acc_self, acc_w] at cW
  have hv : meanC o d lo hi = clampI (divI (sumO o d (lenC o d)) (sumW d (lenC o d))) lo hi := rfl
  rw [hv]
  have rd := divI_range (sumO o d (lenC o d)) (sumW d (lenC o d))
  generalize divI (sumO o d (lenC o d)) (sumW d (lenC o d)) = q at *
  have cC := clamp_any q lo hi (by omega) (by omega) l0.1 l0.2 h0.1 h0.2
  have X := Lib.hid (And.intro x0 (And.intro B0 z0))
  clear so sd x0 B0 z0 so0 sd0 hv rd
  go_enter Try.func8, Try.ntmps8
  go_wp2_with fail
  generalize w.alloc (.cells #[.int .i64 lo, .int .i64 hi] 24) = w0 at *
  (with_reducible refine cW.mono ?_)
  rintro e w1 ⟨rfl, B1⟩
  obtain ⟨x0, B0, z0⟩ := X.out
  obtain ⟨s0, s1⟩ := two_at18 ((B1.block _ (by omega)).trans x0)
  have BF := Lib.hid (B0.trans (B1.mono (by omega)))
  clear x0 B0 z0 B1 cW X
  go_wp2_with fail
  (with_reducible refine (cC _).mono ?_)
  rintro e w2 ⟨rfl, rfl⟩
  go_wp2_with fail
  go_ret
  exact ⟨rfl, BF.out⟩
set_option maxRecDepth 100000 in
set_option maxHeartbeats 6400000 in
theorem cjit_any (o d : List Int) (ho : o.length ≤ 60) (hd : d.length ≤ 60) (tx : ∀ x ∈ o, -9223372036854775808 ≤ x ∧ x ≤ 9223372036854775807) (td : ∀ x ∈ d, -9223372036854775808 ≤ x ∧ x ≤ 9223372036854775807) (about : Int) (a0 : -9223372036854775808 ≤ about ∧ about ≤ 9223372036854775807) {F G : Nat → Prop} {vo vd : Value} (w : World) (so : SlAt F 1 (oneE .i64) w vo o) (sd : SlAt G 1 (oneE .i64) w vd d) (hF : ∀ b, F b → b < w.heap.size) (hG : ∀ b, G b → b < w.heap.size) :
    Calls Try.prog 10 #[vo, vd, .int .i64 about] w fun e w' => e = .returned (.int .i64 (jitC o d about)) ∧ Below w.heap.size w w' := by
  have x0 := heap_alloc_new w (.cells #[.int .i64 about] 2)
  have B0 := (Below.refl w.heap.size w).alloc (Nat.le_refl _) (.cells #[.int .i64 about] 2)
  have z0 := World.size_alloc w (.cells #[.int .i64 about] 2)
  have so0 := so.kept fun b hb => B0.block b (hF b hb)
  have sd0 := sd.kept fun b hb => B0.block b (hG b hb)
  have cW := cweigh_any o d ho hd tx td 27 #[.pointer (some ⟨w.heap.size, 0, none⟩)] enters_sq (sqI about) (fun x _ => mulI18 _ _) _ so0 sd0 (fun b hb => Nat.lt_of_lt_of_le (hF b hb) B0.size) (fun b hb => Nat.lt_of_lt_of_le (hG b hb) B0.size) (fun W hW x hx => csq_any x about hx a0 w.heap.size W ((hW.block _ (by omega)).trans x0))
  obtain ⟨xo, co, rfl⟩ := so.slice
  obtain ⟨xd, cd, rfl⟩ := sd.slice
  rw [acc_sq, acc_w] at cW
  have hv : jitC o d about = rootI (divI (sumJ o d about (lenC o d)) (sumW d (lenC o d))) := rfl
  rw [hv]
  have rd := divI_range (sumJ o d about (lenC o d)) (sumW d (lenC o d))
  generalize divI (sumJ o d about (lenC o d)) (sumW d (lenC o d)) = q at *
  have cR := fsqrt_any q (by omega) (by omega)
  have X := Lib.hid (And.intro B0 z0)
  clear so sd x0 B0 z0 so0 sd0 hv rd
  go_enter Try.func10, Try.ntmps10
  go_wp2_with fail
  generalize w.alloc (.cells #[.int .i64 about] 2) = w0 at *
  (with_reducible refine cW.mono ?_)
  rintro e w1 ⟨rfl, B1⟩
  obtain ⟨B0, z0⟩ := X.out
  have BF := B0.trans (B1.mono (by omega))
  have HB := Lib.hid BF
  clear B0 z0 B1 cW X BF
  go_wp2_with fail
  (with_reducible refine (cR _).mono ?_)
  rintro e w2 ⟨rfl, B2⟩
  have BZ := Lib.hid (HB.out.trans (B2.mono HB.out.size))
  clear B2 cR
  go_wp2_with fail
  go_ret
  exact ⟨rfl, BZ.out⟩
end Go.Proofs.Ytekdablolacgfaa.W
