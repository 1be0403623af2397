/- Layer 9's own code, walked: which slot is the newest one, and which is next. -/
import Derived.Test.YtcfdggeoecdnnaaDrD
import Derived.BigQuiet
import Derived.Deep.DeepCutAuto
namespace Go.Proofs.Ytcfdggeoecdnnaa.W
open Go.RowKit Go.Sort
set_option linter.unusedVariables false
set_option linter.unusedSimpArgs false
def slV2 (x y : Sl) : Value := .agg #[.bool x.whole, .int .u32 x.seq, .int .i64 x.freq, .bool y.whole, .int .u32 y.seq, .int .i64 y.freq]
def newP (x y : Sl) : Int := if newest x y = 1 then 1 else 0
theorem three_new (w : World) (o0 o1 o2 : Obj) :
    (((w.alloc o0).alloc o1).alloc o2).drew.heap[w.heap.size + 1]? = some o1 ∧ (((w.alloc o0).alloc o1).alloc o2).drew.heap[w.heap.size + 1 + 1]? = some o2 ∧ Below w.heap.size w (((w.alloc o0).alloc o1).alloc o2).drew := by
  have h1 := heap_alloc_new (w.alloc o0) o1
  have h2 := heap_alloc_new ((w.alloc o0).alloc o1) o2
  have s0 : (w.alloc o0).heap.size = w.heap.size + 1 := by simp
  have s1 : ((w.alloc o0).alloc o1).heap.size = w.heap.size + 1 + 1 := by simp
  rw [s0] at h1
  rw [s1] at h2
  refine ⟨?_, h2, ?_⟩
  · exact kept_block h1 (Below.alloc (Below.refl _ _) (Nat.le_refl _) o2).drew
  · exact (Below.alloc (Below.alloc (Below.alloc (Below.refl _ _) (Nat.le_refl _) o0) (by omega) o1) (by omega) o2).drew
set_option maxHeartbeats 6400000 in
theorem newest_any (x y : Sl) (hx : 0 ≤ x.seq ∧ x.seq < 4294967296) (hy : 0 ≤ y.seq ∧ y.seq < 4294967296) (w : World) :
    Calls Try.prog 18 #[slV2 x y] w fun e w' => e = .returned (.tuple #[.int .i64 (newP x y), .bool (decide (0 ≤ newest x y))]) ∧ Below w.heap.size w w' := by
  obtain ⟨xw, xq, xf⟩ := x
  obtain ⟨yw, yq, yf⟩ := y
  simp only [] at hx hy
  unfold slV2
  simp only []
  have ia := isAhead_any yq xq hy.1 hy.2 hx.1 hx.2
  go_enter Try.func18, Try.ntmps18
  go_wp2_with fail
  go_upto_region 1 with fail
  go_cut [4, 5] (fun p q wx => ∃ a b : Nat, p = .pointer (some ⟨a, 0, none⟩) ∧ q = .pointer (some ⟨b, 0, none⟩) ∧ wx.heap[a]? = some (.cells #[.bool xw, .int .u32 xq, .int .i64 xf] 35 (0, 0)) ∧ wx.heap[b]? = some (.cells #[.bool yw, .int .u32 yq, .int .i64 yf] 35 (0, 0)) ∧ Below w.heap.size w wx)
  case first =>
    go_region
    all_goals (go_wp2_with fail; go_meet)
    all_goals first
      | exact ⟨_, _, rfl, rfl, (three_new w _ _ _).1, (three_new w _ _ _).2.1, (three_new w _ _ _).2.2⟩
      | exact ⟨_, _, rfl, rfl, (three_new w _ _ _).2.1, (three_new w _ _ _).1, (three_new w _ _ _).2.2⟩
  case rest =>
    obtain ⟨a, b, rfl, rfl, ha, hb, hB⟩ := hcut
    obtain ⟨c0, c1, c2, z0, z1, z2⟩ := slot_cells ha
    obtain ⟨d0, d1, d2, y0, y1, y2⟩ := slot_cells hb
    have la := (Array.getElem?_eq_some_iff.1 ha).1
    have lb := (Array.getElem?_eq_some_iff.1 hb).1
    cases yw
    · have e1 : newP ⟨xw, xq, xf⟩ ⟨false, yq, yf⟩ = 0 := by unfold newP newest; cases xw <;> rfl
      have e2 : decide (0 ≤ newest ⟨xw, xq, xf⟩ ⟨false, yq, yf⟩) = xw := by unfold newest; cases xw <;> rfl
      go_wp2_with fail
      go_quiet (fail)
      go_wp2_with fail
      go_ret2
      exact ⟨by rw [e1, e2]; rfl, below_drewN hB _⟩
    · cases xw
      · have e1 : newP ⟨false, xq, xf⟩ ⟨true, yq, yf⟩ = 1 := rfl
        have e2 : decide (0 ≤ newest ⟨false, xq, xf⟩ ⟨true, yq, yf⟩) = true := rfl
        go_wp2_with fail
        go_ret2
        exact ⟨by rw [e1, e2]; rfl, hB⟩
      · by_cases hh : 0 < (yq - xq) % 4294967296 ∧ (yq - xq) % 4294967296 < 2147483648
        · have e0 : newest ⟨true, xq, xf⟩ ⟨true, yq, yf⟩ = 1 := by unfold newest; rw [if_pos rfl, if_pos rfl, if_pos hh]
          rw [decide_eq_true hh] at ia
          clear hh
          go_wp2_with fail
          (with_reducible refine (ia _).mono ?_)
          rintro e w' ⟨rfl, rfl⟩
          go_wp2_with fail
          go_ret2
          exact ⟨by unfold newP; rw [e0]; rfl, hB⟩
        · have e0 : newest ⟨true, xq, xf⟩ ⟨true, yq, yf⟩ = 0 := by unfold newest; rw [if_pos rfl, if_pos rfl, if_neg hh]
          rw [decide_eq_false hh] at ia
          clear hh
          go_wp2_with fail
          (with_reducible refine (ia _).mono ?_)
          rintro e w' ⟨rfl, rfl⟩
          go_wp2_with fail
          go_quiet (fail)
          go_wp2_with fail
          go_ret2
          exact ⟨by unfold newP; rw [e0]; rfl, below_drewN hB _⟩
def tgt (x y : Sl) : Nat := if newest x y = 0 then 16 else 0
def nxq (x y : Sl) : Int := if newest x y = 0 then (x.seq + 1) % 4294967296 else if newest x y = 1 then (y.seq + 1) % 4294967296 else 1
theorem six_cells {w : World} {p : Nat} {a b c d e f : Value} {t : TypeId} (h : w.heap[p]? = some (.cells #[a, b, c, d, e, f] t (0, 0))) :
    w.cell? ⟨p, 0, none⟩ = some a ∧ w.cell? ⟨p, 1, none⟩ = some b ∧ w.cell? ⟨p, 2, none⟩ = some c ∧ w.cell? ⟨p, 3, none⟩ = some d ∧ w.cell? ⟨p, 4, none⟩ = some e ∧ w.cell? ⟨p, 5, none⟩ = some f := by
  refine ⟨?_, ?_, ?_, ?_, ?_, ?_⟩ <;> simp [World.cell?, h]
set_option maxHeartbeats 6400000 in
theorem next_any (x y : Sl) (hx : 0 ≤ x.seq ∧ x.seq < 4294967296) (hy : 0 ≤ y.seq ∧ y.seq < 4294967296) (w : World) :
    Calls Try.prog 16 #[slV2 x y] w fun e w' => e = .returned (.tuple #[.int .i64 (tgt x y), .int .u32 (nxq x y)]) ∧ Below w.heap.size w w' := by
  have nw := newest_any x y hx hy
  unfold newP at nw
  have hc := new_cases x y
  unfold tgt nxq
  generalize newest x y = n at *
  obtain ⟨xw, xq, xf⟩ := x
  obtain ⟨yw, yq, yf⟩ := y
  unfold slV2 at *
  simp only [] at *
  have h1 : (w.alloc (.cells #[.bool xw, .int .u32 xq, .int .i64 xf, .bool yw, .int .u32 yq, .int .i64 yf] 36)).heap[w.heap.size]? = some (.cells #[.bool xw, .int .u32 xq, .int .i64 xf, .bool yw, .int .u32 yq, .int .i64 yf] 36 (0, 0)) := heap_alloc_new _ _
  have b1 := Below.alloc (Below.refl w.heap.size w) (Nat.le_refl _) (.cells #[.bool xw, .int .u32 xq, .int .i64 xf, .bool yw, .int .u32 yq, .int .i64 yf] 36)
  rcases hc with rfl | rfl | rfl
  · simp only [show ¬ ((0 : Int) = 1) by decide, show (0 : Int) = 0 from rfl, if_true, if_false, show decide ((0 : Int) ≤ 0) = true from rfl] at nw ⊢
    go_enter Try.func16, Try.ntmps16
    go_wp2_with fail
    generalize w.alloc (.cells #[.bool xw, .int .u32 xq, .int .i64 xf, .bool yw, .int .u32 yq, .int .i64 yf] 36) = w1 at *
    (with_reducible refine (nw _).mono ?_)
    rintro e w2 ⟨rfl, hB⟩
    have h2 := kept_block h1 hB
    have b2 := b1.trans (hB.mono b1.size)
    obtain ⟨c0, c1, c2, c3, c4, c5⟩ := six_cells h2
    clear h1 b1 hB nw h2
    go_wp2_with fail
    go_quiet (fail)
    go_wp2_with fail
    go_ret2
    exact ⟨rfl, below_drewN b2 _⟩
  · simp only [show ¬ ((1 : Int) = 0) by decide, show (1 : Int) = 1 from rfl, if_true, if_false, show decide ((0 : Int) ≤ 1) = true from rfl] at nw ⊢
    go_enter Try.func16, Try.ntmps16
    go_wp2_with fail
    generalize w.alloc (.cells #[.bool xw, .int .u32 xq, .int .i64 xf, .bool yw, .int .u32 yq, .int .i64 yf] 36) = w1 at *
    (with_reducible refine (nw _).mono ?_)
    rintro e w2 ⟨rfl, hB⟩
    have h2 := kept_block h1 hB
    have b2 := b1.trans (hB.mono b1.size)
    obtain ⟨c0, c1, c2, c3, c4, c5⟩ := six_cells h2
    clear h1 b1 hB nw h2
    go_wp2_with fail
    go_quiet (fail)
    go_wp2_with fail
    go_ret2
    exact ⟨rfl, below_drewN b2 _⟩
  · simp only [show ¬ ((-1 : Int) = 0) by decide, show ¬ ((-1 : Int) = 1) by decide, if_true, if_false, show decide ((0 : Int) ≤ -1) = false from rfl] at nw ⊢
    go_enter Try.func16, Try.ntmps16
    go_wp2_with fail
    generalize w.alloc (.cells #[.bool xw, .int .u32 xq, .int .i64 xf, .bool yw, .int .u32 yq, .int .i64 yf] 36) = w1 at *
    (with_reducible refine (nw _).mono ?_)
    rintro e w2 ⟨rfl, hB⟩
    have h2 := kept_block h1 hB
    have b2 := b1.trans (hB.mono b1.size)
    obtain ⟨c0, c1, c2, c3, c4, c5⟩ := six_cells h2
    clear h1 b1 hB nw h2
    go_wp2_with fail
    go_ret2
    exact ⟨rfl, b2⟩
end Go.Proofs.Ytcfdggeoecdnnaa.W
