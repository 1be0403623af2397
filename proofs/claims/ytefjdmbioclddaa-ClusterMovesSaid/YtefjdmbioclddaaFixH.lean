/- Means, walked: the closures that keep a mean open. -/
import Derived.Test.YtefjdmbioclddaaFixG
namespace Go.Proofs.Ytefjdmbioclddaa.W
open Go.RowKit
set_option linter.unusedVariables false
set_option linter.unusedSimpArgs false
/-- What an open mean has: the sum's halves in one block, and how many there are in the next one. -/
structure Open (b : Nat) (S n : Int) (w : World) : Prop where
  all : w.heap[b]? = some (.cells #[.int .u64 (sumH S), .int .u64 (sumL S)] 85 (0, 0))
  many : w.heap[b + 1]? = some (.cells #[.int .u64 n] 79 (0, 0))
theorem Open.kept {b : Nat} {S n : Int} {w w' : World} (o : Open b S n w) (h : Below w.heap.size w w') : Open b S n w' :=
  ⟨by rw [h.block _ (lt_of_block o.all)]; exact o.all, by rw [h.block _ (lt_of_block o.many)]; exact o.many⟩
set_option maxHeartbeats 800000 in
theorem averaging_any (w : World) :
    Calls Try.prog 42 #[] w fun e w' => e = .returned (.tuple #[.func (.func 54) #[] #[.pointer (some ⟨w.heap.size, 0, none⟩), .pointer (some ⟨w.heap.size + 1, 0, none⟩)], .func (.func 56) #[] #[.pointer (some ⟨w.heap.size + 1, 0, none⟩), .pointer (some ⟨w.heap.size, 0, none⟩)]]) ∧ Open w.heap.size 0 0 w' ∧ Below w.heap.size w w' := by
  go_enter Try.func42, Try.ntmps42
  go_wp2
  go_ret2
  refine ⟨rfl, ⟨?_, ?_⟩, ?_⟩
  · rw [Below.heap_alloc _ _ _ (by simp)]
    exact heap_alloc_new' _ _ rfl
  · exact heap_alloc_new' _ _ (by simp)
  · exact ((Below.refl _ _).alloc (Nat.le_refl _) _).alloc (by simp) _
set_option maxHeartbeats 800000 in
theorem cadd_any (S n x : Int) (b : Nat) (hx : -9223372036854775808 ≤ x) (hx' : x ≤ 9223372036854775807) (hn : 0 ≤ n) (hn' : n < 9223372036854775807) (w : World) (o : Open b S n w) :
    Calls Try.prog 54 #[.int .i64 x, .pointer (some ⟨b, 0, none⟩), .pointer (some ⟨b + 1, 0, none⟩)] w fun e w' => e = .returned (.tuple #[]) ∧ Open b (S + x) (n + 1) w' ∧ Below b w w' := by
  obtain ⟨h0, h1, h2, h3⟩ := sum_range S
  have hc := splus_any S x hx hx'
  have l0 := lt_of_block o.all
  have l1 := lt_of_block o.many
  obtain ⟨c0, c1⟩ := cell_of_two o.all
  have c2 := cell_of_one o.many
  go_enter Try.func54, Try.ntmps54
  go_wp2_with fail
  (with_reducible refine (hc _).mono ?_)
  rintro e w1 ⟨rfl, hb1⟩
  have o1 := o.kept hb1
  clear c0 c1 c2
  obtain ⟨c0, c1⟩ := cell_of_two o1.all
  have c2 := cell_of_one o1.many
  have f2 := free_of_one o1.many
  obtain ⟨f0, f1⟩ := free_of_two o1.all
  go_wp2_with fail
  go_end0
  have g0 := (two_setCell (x := .int .u64 (sumH (S + x))) o1.all).1
  have g1 := (two_setCell (x := .int .u64 (sumL (S + x))) g0).2
  have g2 : ((w1.setCell ⟨b, 0, none⟩ (.int .u64 (sumH (S + x)))).setCell ⟨b, 1, none⟩ (.int .u64 (sumL (S + x)))).heap[b + 1]? = some (.cells #[.int .u64 n] 79 (0, 0)) := by
    rw [Below.heap_setCell _ _ _ _ (by simp), Below.heap_setCell _ _ _ _ (by simp)]
    exact o1.many
  refine ⟨rfl, ⟨?_, one_setCell g2⟩, ?_⟩
  · rw [Below.heap_setCell _ _ _ _ (by simp)]
    exact g1
  · exact (((hb1.mono (by omega)).setCell (by simp) _).setCell (by simp) _).setCell (by simp) _
set_option maxHeartbeats 800000 in
theorem cmean_zero (S : Int) (b : Nat) (w : World) (o : Open b S 0 w) :
    Calls Try.prog 56 #[.pointer (some ⟨b + 1, 0, none⟩), .pointer (some ⟨b, 0, none⟩)] w fun e w' => e = .returned (.int .i64 0) ∧ w = w' := by
  have l0 := lt_of_block o.all
  have l1 := lt_of_block o.many
  have c2 := cell_of_one o.many
  go_enter Try.func56, Try.ntmps56
  go_wp2_with fail
  go_ret
  exact ⟨rfl, rfl⟩
set_option maxHeartbeats 800000 in
theorem cmean_any (S n : Int) (b : Nat) (h : -170141183460469231731687303715884105728 ≤ S) (h' : S < 170141183460469231731687303715884105728) (hn : 0 < n) (hn' : n < 9223372036854775807) (w : World) (o : Open b S n w) :
    Calls Try.prog 56 #[.pointer (some ⟨b + 1, 0, none⟩), .pointer (some ⟨b, 0, none⟩)] w fun e w' => e = .returned (.int .i64 (cutI (S / n))) ∧ Below w.heap.size w w' := by
  have hc := sby_any S n h h' hn (by omega)
  have l0 := lt_of_block o.all
  have l1 := lt_of_block o.many
  obtain ⟨c0, c1⟩ := cell_of_two o.all
  have c2 := cell_of_one o.many
  have hne : (n == 0) = false := by simp; omega
  generalize cutI (S / n) = r at *
  go_enter Try.func56, Try.ntmps56
  go_wp2_with fail
  (with_reducible refine (hc _).mono ?_)
  rintro e w1 ⟨rfl, hb1⟩
  go_wp2_with fail
  go_ret
  exact ⟨rfl, hb1⟩
/-- A row of int64s that lies in memory; an empty one lies nowhere. -/
def Ints (w : World) (A : Option Addr) (z : List Int) : Prop :=
  z = [] ∨ ∃ b off, A = some ⟨b, off, none⟩ ∧ b < w.heap.size ∧ ∀ k, k < z.length → w.cell? ⟨b, off + k, none⟩ = some (.int .i64 (z.getD k 0))
def InR (z : List Int) : Prop := ∀ x ∈ z, -9223372036854775808 ≤ x ∧ x ≤ 9223372036854775807
theorem InR.at_ {z : List Int} (h : InR z) (k : Nat) (hk : k < z.length) : -9223372036854775808 ≤ z.getD k 0 ∧ z.getD k 0 ≤ 9223372036854775807 := by
  rw [List.getD_eq_getElem?_getD, List.getElem?_eq_getElem hk]
  exact h _ (List.getElem_mem hk)
theorem sum_next (z : List Int) (k : Nat) (hk : k < z.length) : (z.take (k + 1)).sum = (z.take k).sum + z.getD k 0 := by
  rw [List.take_succ_eq_append_getElem hk, List.sum_append, List.getD_eq_getElem?_getD, List.getElem?_eq_getElem hk]
  simp
theorem InR.sum {z : List Int} (h : InR z) : -9223372036854775808 * (z.length : Int) ≤ z.sum ∧ z.sum ≤ 9223372036854775807 * (z.length : Int) := by
  induction z with
  | nil => simp
  | cons x z ih =>
    obtain ⟨i1, i2⟩ := ih fun y hy => h y (List.mem_cons_of_mem _ hy)
    obtain ⟨j1, j2⟩ := h x List.mem_cons_self
    rw [List.sum_cons, List.length_cons]
    omega
theorem Ints.below {w w' : World} {A : Option Addr} {z : List Int} (h : Ints w A z) {B : Nat} (hB : w.heap.size ≤ B) (hb : Below B w w') : Ints w' A z := by
  rcases h with h | ⟨b, off, e, hlt, hc⟩
  · exact .inl h
  · exact .inr ⟨b, off, e, Nat.lt_of_lt_of_le hlt hb.size, fun k hk => by rw [hb.cell (by show b < B; omega)]; exact hc k hk⟩
set_option maxHeartbeats 1600000 in
theorem froot_nil (A : Option Addr) (cap : Nat) (w : World) :
    Calls Try.prog 30 #[.slice A 0 cap] w fun e w' => e = .returned (.int .i64 0) ∧ Below w.heap.size w w' := by
  have hs := fsqrt_any 0 (by decide) (by decide)
  rw [show rootI 0 = 0 from rfl] at hs
  go_enter Try.func30, Try.ntmps30
  go_wp2_with fail
  (with_reducible refine (averaging_any _).mono ?_)
  rintro e w1 ⟨rfl, o, hb1⟩
  go_wp2_with fail
  refine wp_loop_rounds 1 ?_
  rw [rounds_succ]
  go_wp2_with fail
  (with_reducible refine (cmean_zero 0 _ _ o).mono ?_)
  rintro e w2 ⟨rfl, rfl⟩
  go_wp2_with fail
  (with_reducible refine (hs _).mono ?_)
  rintro e w2 ⟨rfl, hb2⟩
  go_wp2_with fail
  go_ret
  exact ⟨rfl, hb1.trans (hb2.mono hb1.size)⟩
def sqs (z : List Int) : List Int := z.map fun x => mulI x x
theorem sqs_length (z : List Int) : (sqs z).length = z.length := by unfold sqs; simp
theorem sqs_at (z : List Int) (k : Nat) (hk : k < z.length) : (sqs z).getD k 0 = mulI (z.getD k 0) (z.getD k 0) := by
  unfold sqs
  rw [List.getD_eq_getElem?_getD, List.getD_eq_getElem?_getD, List.getElem?_map, List.getElem?_eq_getElem hk]; rfl
theorem mulI_range (a b : Int) : -9223372036854775807 ≤ mulI a b ∧ mulI a b ≤ 9223372036854775807 := cutI_range _
theorem sqs_in (z : List Int) : InR (sqs z) := by
  intro x hx
  unfold sqs at hx
  obtain ⟨y, _, rfl⟩ := List.mem_map.mp hx
  have := mulI_range y y
  omega
theorem meanI_range (z : List Int) : -9223372036854775807 ≤ meanI z ∧ meanI z ≤ 9223372036854775807 := by
  unfold meanI; split
  · omega
  · exact cutI_range _
set_option maxHeartbeats 1600000 in
theorem froot_any (z : List Int) (A : Option Addr) (cap : Nat) (hz : InR z) (hl : z.length ≤ 17592186044416) (w : World) (hr : Ints w A z) :
    Calls Try.prog 30 #[.slice A z.length cap] w fun e w' => e = .returned (.int .i64 (rmsI z)) ∧ Below w.heap.size w w' := by
  by_cases h0 : z.length = 0
  · obtain rfl := List.eq_nil_of_length_eq_zero h0
    exact froot_nil A cap w
  · rcases hr with rfl | ⟨b, off, rfl, hlt, hc⟩
    · exact absurd rfl h0
    · have hq := sqs_length z
      have S0 := (sqs_in z).sum
      rw [hq] at S0
      have mr := meanI_range (sqs z)
      have hs := fsqrt_any (meanI (sqs z)) (by omega) (by omega)
      rw [show rootI (meanI (sqs z)) = rmsI z from rfl] at hs
      have hv : meanI (sqs z) = cutI ((sqs z).sum / (z.length : Int)) := by unfold meanI; rw [if_neg (by omega), hq]
      have HV := Lib.hid hv
      have HQ := Lib.hid hq
      clear hv mr hq
      generalize rmsI z = rz at *
      generalize meanI (sqs z) = mz at *
      go_enter Try.func30, Try.ntmps30
      go_wp2_with fail
      (with_reducible refine (averaging_any _).mono ?_)
      rintro e w1 ⟨rfl, o, hb1⟩
      go_wp2_with fail
      go_loopw [13] (fun i wr => ∃ k : Nat, k ≤ z.length ∧ i = .int .i64 k ∧ Open w.heap.size (((sqs z).take k).sum) k wr ∧ Below w.heap.size w wr) (fun i _ => z.length - (intOf i).toNat)
      case atStart => exact ⟨0, Nat.zero_le _, rfl, o, hb1⟩
      case round =>
        obtain ⟨k, hk, rfl, o, hB⟩ := hrel
        by_cases hk2 : k < z.length
        · obtain ⟨x0, x1⟩ := hz.at_ k hk2
          have c0 : wr.cell? ⟨b, off + k, none⟩ = some (.int .i64 (z.getD k 0)) := by
            rw [hB.cell (by show b < w.heap.size; omega)]; exact hc k hk2
          have mr := mulI_range (z.getD k 0) (z.getD k 0)
          have hn := fun w2 o2 => cadd_any (((sqs z).take k).sum) k (mulI (z.getD k 0) (z.getD k 0)) w.heap.size (by omega) (by omega) (by omega) (by omega) w2 o2
          rw [← sqs_at z k hk2, ← sum_next (sqs z) k (by rw [HQ.out]; exact hk2), sqs_at z k hk2] at hn
          have hm := fmul_any (z.getD k 0) (z.getD k 0) x0 x1 x0 x1
          clear mr
          generalize mulI (z.getD k 0) (z.getD k 0) = y at *
          generalize z.getD k 0 = x at *
          go_wp2_with fail
          (with_reducible refine (hm _).mono ?_)
          rintro e w2 ⟨rfl, hb2⟩
          have o2 := o.kept hb2
          have hB2 := hB.trans (hb2.mono hB.size)
          go_wp2_with fail
          (with_reducible refine (hn _ o2).mono ?_)
          rintro e w3 ⟨rfl, o3, hb3⟩
          go_wp2_with fail
          go_roundw
          case rel => exact ⟨k + 1, by omega, by go_num, by simpa using o3, hB2.trans hb3⟩
          case measure => simp [intOf]; omega
        · obtain rfl : k = z.length := by omega
          rw [show ((sqs z).take z.length) = sqs z by rw [← HQ.out, List.take_length]] at o
          have hm := cmean_any (sqs z).sum z.length w.heap.size (by omega) (by omega) (by omega) (by omega) wr o
          rw [← HV.out] at hm
          go_wp2_with fail
          (with_reducible refine hm.mono ?_)
          rintro e w2 ⟨rfl, hb2⟩
          have hB2 := hB.trans (hb2.mono hB.size)
          go_wp2_with fail
          (with_reducible refine (hs _).mono ?_)
          rintro e w3 ⟨rfl, hb3⟩
          go_wp2_with fail
          go_ret
          exact ⟨rfl, hB2.trans (hb3.mono hB2.size)⟩
end Go.Proofs.Ytefjdmbioclddaa.W
