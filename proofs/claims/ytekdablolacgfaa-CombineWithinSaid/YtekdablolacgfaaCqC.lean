/- Layer 18's own code, and its laws: lists that are read, numbers' bounds. -/
import Derived.Test.YtekdablolacgfaaCqA
import Derived.Test.YtekdablolacgfaaCqB
import Derived.Test.YtekdablolacgfaaStK
import Derived.Test.YtekdablolacgfaaStF
import Derived.Test.YtekdablolacgfaaStH
import Derived.Test.YtekdablolacgfaaRowS
import Derived.Laws.CopyOwn
import Derived.Handy
import Derived.Laws.AppendOwn
import Derived.Deep.DeepCutAuto
import Derived.Test.YtekdablolacgfaaRtB
import Derived.Test.YtekdablolacgfaaSlA
import Derived.Test.YtekdablolacgfaaQtB
import Derived.Test.YtekdablolacgfaaFixB
import Derived.Test.YtekdablolacgfaaFixC
import Derived.Test.YtekdablolacgfaaFixD
import Derived.Test.YtekdablolacgfaaFixE
import Derived.Test.YtekdablolacgfaaChecked
import Derived.WalkKit
import Derived.Lib.Hide
namespace Go.Proofs.Ytekdablolacgfaa.W
open Go.RowKit Go.Sort
set_option linter.unusedVariables false
set_option linter.unusedSimpArgs false
theorem heap_first (w : World) (o o' : Obj) : ((w.alloc o).alloc o').heap[w.heap.size]? = some o := by
  have h := heap_alloc_new w o
  exact (((Below.refl (w.alloc o).heap.size (w.alloc o)).alloc (Nat.le_refl _) o').block w.heap.size (by simp)).trans h
theorem heap_second (w : World) (o o' : Obj) : ((w.alloc o).alloc o').heap[w.heap.size + 1]? = some o' := by
  have h := heap_alloc_new (w.alloc o) o'
  have e : (w.alloc o).heap.size = w.heap.size + 1 := by simp
  rw [e] at h
  exact h
theorem run_min18 (k : IntKind) (a b m : Int) (h : min a b = m) (ts : Array TypeId) (t : TypeId) (w : World) : (Builtin.min_ ts t #[.int k a, .int k b]).run Try.prog w = .ok (.int k m) w := by
  subst h
  rcases Int.lt_trichotomy a b with h | rfl | h
  · simp [Builtin.min_, Builtin.min2, show min a b = a by omega, h, show ¬ b < a by omega]
  · simp [Builtin.min_, Builtin.min2]
  · simp [Builtin.min_, Builtin.min2, show min a b = b by omega, h, show ¬ a < b by omega]
theorem run_max18 (k : IntKind) (a b m : Int) (h : max a b = m) (ts : Array TypeId) (t : TypeId) (w : World) : (Builtin.max_ ts t #[.int k a, .int k b]).run Try.prog w = .ok (.int k m) w := by
  subst h
  rcases Int.lt_trichotomy a b with h | rfl | h
  · simp [Builtin.max_, Builtin.max2, show max a b = b by omega, h, show ¬ b < a by omega]
  · simp [Builtin.max_, Builtin.max2]
  · simp [Builtin.max_, Builtin.max2, show max a b = a by omega, h, show ¬ a < b by omega]
def I64 (x : Int) : Prop := -9223372036854775808 ≤ x ∧ x ≤ 9223372036854775807
theorem sumO_i64 (o d : List Int) : ∀ n, I64 (sumO o d n)
  | 0 => by unfold sumO I64; decide
  | n + 1 => by unfold sumO addI cutI I64; omega
theorem sumW_i64 (d : List Int) : ∀ n, I64 (sumW d n)
  | 0 => by unfold sumW I64; decide
  | n + 1 => by unfold sumW addI cutI I64; omega
theorem sumJ_i64 (o d : List Int) (x : Int) : ∀ n, I64 (sumJ o d x n)
  | 0 => by unfold sumJ I64; decide
  | n + 1 => by unfold sumJ addI cutI I64; omega
theorem div_i64 (a b : Int) : I64 (divI a b) := by
  unfold divI endI cutI I64
  repeat' split
  all_goals omega
theorem mul_i64 (a b : Int) : I64 (mulI a b) := by unfold mulI cutI I64; omega
theorem sub_i64 (a b : Int) : I64 (subI a b) := by unfold subI cutI I64; omega
theorem getD_in {l : List Int} {q : Nat} (h : q < l.length) : l.getD q 0 ∈ l := by
  have : l.getD q 0 = l[q] := by simp [List.getD, h]
  rw [this]
  exact List.getElem_mem h
theorem num_at18 {F : Nat → Prop} {w wr : World} {x : Option Addr} {c : Nat} {l : List Int} {q : Nat} (h : SlAt F 1 (oneE .i64) w (.slice x l.length c) l) (hF : ∀ b, F b → b < w.heap.size) (hB : Below w.heap.size w wr) (hq : q < l.length) :
    ∃ b off, x = some ⟨b, off, none⟩ ∧ wr.cell? ⟨b, off + q, none⟩ = some (.int .i64 (l.getD q 0)) := by
  rcases h with ⟨_, _, _, _, rfl⟩ | ⟨b, off, cap, hv, hb, hc⟩
  · simp at hq
  · obtain ⟨rfl, _⟩ := Value.slice.inj hv
    refine ⟨b, off, rfl, ?_⟩
    rw [hB.cell (hF b hb)]
    have hx : l[q]? = some (l.getD q 0) := by simp [List.getD, hq]
    have := hc q _ hx 0 _ rfl
    simpa using this
theorem str_at18 {F : Nat → Prop} {w wr : World} {x : Option Addr} {c : Nat} {l : List Sv} {k : Int} (h : SlAt F 11 svC w (.slice x l.length c) l) (hF : ∀ b, F b → b < w.heap.size) (hB : Below w.heap.size w wr) (h0 : 0 ≤ k) (h1 : k < l.length) :
    ∃ b off, x = some ⟨b, off, none⟩ ∧ wr.cell? ⟨b, off + k.toNat * 11 + 1, none⟩ = some (.int .i64 (svAt l k.toNat).str) := by
  rcases h with ⟨_, _, _, _, rfl⟩ | ⟨b, off, cap, hv, hb, hc⟩
  · simp at h1
    omega
  · obtain ⟨rfl, _⟩ := Value.slice.inj hv
    refine ⟨b, off, rfl, ?_⟩
    rw [hB.cell (hF b hb)]
    have hx : l[k.toNat]? = some (svAt l k.toNat) := by
      have : k.toNat < l.length := by omega
      simp [svAt, List.getD, this]
    exact hc k.toNat _ hx 1 _ rfl
abbrev svA (s : Sv) : Array Value := #[.int .i64 s.leap, .int .i64 s.str, .int .u32 s.ref, .int .i64 s.del, .int .i64 s.disp, .int .i64 s.t.off, .int .i64 s.t.del, .int .i64 s.t.disp, .int .i64 s.t.jit, .int .i64 s.t.at_, .int .u8 s.reg]
theorem sv_at18 {w : World} {b q : Nat} {s : Sv} (h : ∀ j u, (svC s)[j]? = some u → w.cell? ⟨b, q + j, none⟩ = some u) :
    w.cell? ⟨b, q, none⟩ = some (.int .i64 s.leap) ∧ w.cell? ⟨b, q + 1, none⟩ = some (.int .i64 s.str) ∧ w.cell? ⟨b, q + 2, none⟩ = some (.int .u32 s.ref) ∧ w.cell? ⟨b, q + 3, none⟩ = some (.int .i64 s.del) ∧ w.cell? ⟨b, q + 4, none⟩ = some (.int .i64 s.disp) ∧ w.cell? ⟨b, q + 5, none⟩ = some (.int .i64 s.t.off) ∧ w.cell? ⟨b, q + 6, none⟩ = some (.int .i64 s.t.del) ∧ w.cell? ⟨b, q + 7, none⟩ = some (.int .i64 s.t.disp) ∧ w.cell? ⟨b, q + 8, none⟩ = some (.int .i64 s.t.jit) ∧ w.cell? ⟨b, q + 9, none⟩ = some (.int .i64 s.t.at_) ∧ w.cell? ⟨b, q + 10, none⟩ = some (.int .u8 s.reg) :=
  ⟨h 0 _ rfl, h 1 _ rfl, h 2 _ rfl, h 3 _ rfl, h 4 _ rfl, h 5 _ rfl, h 6 _ rfl, h 7 _ rfl, h 8 _ rfl, h 9 _ rfl, h 10 _ rfl⟩
theorem eight_in18 {w : World} {b : Nat} {a0 a1 a2 a3 a4 a5 a6 a7 : Value} {t : TypeId} (h : w.heap[b]? = some (.cells #[a0, a1, a2, a3, a4, a5, a6, a7] t (0, 0))) :
    (w.cell? ⟨b, 0, none⟩ = some a0 ∧ w.cell? ⟨b, 1, none⟩ = some a1 ∧ w.cell? ⟨b, 2, none⟩ = some a2 ∧ w.cell? ⟨b, 3, none⟩ = some a3 ∧ w.cell? ⟨b, 4, none⟩ = some a4 ∧ w.cell? ⟨b, 5, none⟩ = some a5 ∧ w.cell? ⟨b, 6, none⟩ = some a6 ∧ w.cell? ⟨b, 7, none⟩ = some a7) ∧ ∀ i, w.frozen? ⟨b, i, none⟩ = false := by
  refine ⟨⟨?_, ?_, ?_, ?_, ?_, ?_, ?_, ?_⟩, ?_⟩ <;> simp [World.cell?, World.frozen?, h]
/-- Eight cells, written one behind the other. -/
def put8 (W : World) (p : Nat) (a0 a1 a2 a3 a4 a5 a6 a7 : Value) : World := (((((((W.setCell ⟨p, 0, none⟩ a0).setCell ⟨p, 1, none⟩ a1).setCell ⟨p, 2, none⟩ a2).setCell ⟨p, 3, none⟩ a3).setCell ⟨p, 4, none⟩ a4).setCell ⟨p, 5, none⟩ a5).setCell ⟨p, 6, none⟩ a6).setCell ⟨p, 7, none⟩ a7
theorem put8_at {W : World} {p : Nat} {t : TypeId} {a0 a1 a2 a3 a4 a5 a6 a7 b0 b1 b2 b3 b4 b5 b6 b7 : Value} (h : W.heap[p]? = some (.cells #[b0, b1, b2, b3, b4, b5, b6, b7] t (0, 0))) : (put8 W p a0 a1 a2 a3 a4 a5 a6 a7).heap[p]? = some (.cells #[a0, a1, a2, a3, a4, a5, a6, a7] t (0, 0)) := by
  have h0 := block_set 0 a0 h
  simp only [List.setIfInBounds_toArray, List.set_cons_succ, List.set_cons_zero] at h0
  have h1 := block_set 1 a1 h0
  simp only [List.setIfInBounds_toArray, List.set_cons_succ, List.set_cons_zero] at h1
  have h2 := block_set 2 a2 h1
  simp only [List.setIfInBounds_toArray, List.set_cons_succ, List.set_cons_zero] at h2
  have h3 := block_set 3 a3 h2
  simp only [List.setIfInBounds_toArray, List.set_cons_succ, List.set_cons_zero] at h3
  have h4 := block_set 4 a4 h3
  simp only [List.setIfInBounds_toArray, List.set_cons_succ, List.set_cons_zero] at h4
  have h5 := block_set 5 a5 h4
  simp only [List.setIfInBounds_toArray, List.set_cons_succ, List.set_cons_zero] at h5
  have h6 := block_set 6 a6 h5
  simp only [List.setIfInBounds_toArray, List.set_cons_succ, List.set_cons_zero] at h6
  have h7 := block_set 7 a7 h6
  simp only [List.setIfInBounds_toArray, List.set_cons_succ, List.set_cons_zero] at h7
  unfold put8
  exact h7
theorem set_below18 {B : Nat} {w W : World} (h : Below B w W) (p j : Nat) (v : Value) (hp : B ≤ p) : Below B w (W.setCell ⟨p, j, none⟩ v) := h.setCell (p := ⟨p, j, none⟩) hp v
theorem put8_below {B : Nat} {w W : World} (h : Below B w W) (p : Nat) (hp : B ≤ p) (a0 a1 a2 a3 a4 a5 a6 a7 : Value) : Below B w (put8 W p a0 a1 a2 a3 a4 a5 a6 a7) := by
  have h0 := set_below18 h p 0 a0 hp
  have h1 := set_below18 h0 p 1 a1 hp
  have h2 := set_below18 h1 p 2 a2 hp
  have h3 := set_below18 h2 p 3 a3 hp
  have h4 := set_below18 h3 p 4 a4 hp
  have h5 := set_below18 h4 p 5 a5 hp
  have h6 := set_below18 h5 p 6 a6 hp
  exact set_below18 h6 p 7 a7 hp
theorem three_new18 (w : World) (A B C : Array Value) (ta tb tc : TypeId) (W : World) (h : ((w.alloc (.cells A ta)).alloc (.cells B tb)).alloc (.cells C tc) = W) :
    W.heap[w.heap.size]? = some (.cells A ta (0, 0)) ∧ W.heap[w.heap.size + 1]? = some (.cells B tb (0, 0)) ∧ W.heap[w.heap.size + 1 + 1]? = some (.cells C tc (0, 0)) ∧ Below w.heap.size w W ∧ W.heap.size = w.heap.size + 3 := by
  subst h
  have a1 := heap_alloc_new w (.cells A ta)
  have z1 := World.size_alloc w (.cells A ta)
  have b1 := (Below.refl w.heap.size w).alloc (Nat.le_refl _) (.cells A ta)
  generalize w.alloc (.cells A ta) = w1 at *
  have a2 := heap_alloc_new w1 (.cells B tb)
  have z2 := World.size_alloc w1 (.cells B tb)
  have b2 := b1.alloc (by omega) (.cells B tb)
  have c1 := (Below.heap_alloc w1 (.cells B tb) _ (by omega)).trans a1
  generalize w1.alloc (.cells B tb) = w2 at *
  have a3 := heap_alloc_new w2 (.cells C tc)
  have z3 := World.size_alloc w2 (.cells C tc)
  have b3 := b2.alloc (by omega) (.cells C tc)
  have d1 := (Below.heap_alloc w2 (.cells C tc) _ (by omega)).trans c1
  have d2 := (Below.heap_alloc w2 (.cells C tc) _ (by omega)).trans a2
  rw [z1] at d2
  rw [z2, z1] at a3
  exact ⟨d1, d2, a3, b3, by omega⟩
theorem twelve_in18 {w : World} {b : Nat} {a0 a1 a2 a3 a4 a5 a6 a7 a8 a9 a10 a11 : Value} {t : TypeId} (h : w.heap[b]? = some (.cells #[a0, a1, a2, a3, a4, a5, a6, a7, a8, a9, a10, a11] t (0, 0))) :
    w.cell? ⟨b, 0, none⟩ = some a0 ∧ w.cell? ⟨b, 1, none⟩ = some a1 ∧ w.cell? ⟨b, 2, none⟩ = some a2 ∧ w.cell? ⟨b, 3, none⟩ = some a3 ∧ w.cell? ⟨b, 4, none⟩ = some a4 ∧ w.cell? ⟨b, 5, none⟩ = some a5 ∧ w.cell? ⟨b, 6, none⟩ = some a6 ∧ w.cell? ⟨b, 7, none⟩ = some a7 ∧ w.cell? ⟨b, 8, none⟩ = some a8 ∧ w.cell? ⟨b, 9, none⟩ = some a9 ∧ w.cell? ⟨b, 10, none⟩ = some a10 ∧ w.cell? ⟨b, 11, none⟩ = some a11 := by
  refine ⟨?_, ?_, ?_, ?_, ?_, ?_, ?_, ?_, ?_, ?_, ?_, ?_⟩ <;> simp [World.cell?, h]
theorem sv_cells18 {F : Nat → Prop} {w wr : World} {x : Option Addr} {c : Nat} {l : List Sv} {k : Int} (h : SlAt F 11 svC w (.slice x l.length c) l) (hF : ∀ b, F b → b < w.heap.size) (hB : Below w.heap.size w wr) (h0 : 0 ≤ k) (h1 : k < l.length) :
    ∃ b off, x = some ⟨b, off, none⟩ ∧ b < w.heap.size ∧ ∀ j u, (svC (svAt l k.toNat))[j]? = some u → wr.cell? ⟨b, off + k.toNat * 11 + j, none⟩ = some u := by
  rcases h with ⟨_, _, _, _, rfl⟩ | ⟨b, off, cap, hv, hb, hc⟩
  · simp at h1
    omega
  · obtain ⟨rfl, _⟩ := Value.slice.inj hv
    refine ⟨b, off, rfl, hF b hb, fun j u hu => ?_⟩
    rw [hB.cell (hF b hb)]
    have hx : l[k.toNat]? = some (svAt l k.toNat) := by
      have : k.toNat < l.length := by omega
      simp [svAt, List.getD, this]
    exact hc k.toNat _ hx j u hu
theorem sv_in {l : List Sv} {k : Int} (h0 : 0 ≤ k) (h1 : k < l.length) : svAt l k.toNat ∈ l := by
  have : k.toNat < l.length := by omega
  have e : svAt l k.toNat = l[k.toNat] := by simp [svAt, List.getD, this]
  rw [e]
  exact List.getElem_mem this
theorem lead_in {l : List Sv} {kept : List Int} {old : Int} (h : 0 ≤ leadI l kept old) : leadI l kept old < l.length ∧ (∀ k ∈ kept, 0 ≤ k ∧ k < l.length) := by
  unfold leadI chooseI at h ⊢
  by_cases g1 : kept = []
  · rw [if_pos g1] at h
    omega
  · rw [if_neg g1] at h ⊢
    by_cases g2 : kept.any (fun k => decide (k < 0 ∨ (l.length : Int) ≤ k)) = true
    · rw [if_pos g2] at h
      omega
    · rw [if_neg g2] at h ⊢
      have hall : ∀ k ∈ kept, 0 ≤ k ∧ k < l.length := fun k hk => by
        have : ¬ (k < 0 ∨ (l.length : Int) ≤ k) := fun hb => g2 (by rw [List.any_eq_true]; exact ⟨k, hk, by simpa using hb⟩)
        omega
      refine ⟨?_, hall⟩
      split
      · rename_i g3
        obtain ⟨k, hk, e⟩ := List.any_eq_true.1 g3.1
        have := hall k hk
        have e' : k = old := by simpa using e
        omega
      · cases kept with
        | nil => exact absurd rfl g1
        | cons a r => exact (hall a List.mem_cons_self).2
theorem num_at18u {F : Nat → Prop} {w wr : World} {x : Option Addr} {c : Nat} {l : List Int} {q : Nat} (h : SlAt F 1 (oneE .u32) w (.slice x l.length c) l) (hF : ∀ b, F b → b < w.heap.size) (hB : Below w.heap.size w wr) (hq : q < l.length) :
    ∃ b off, x = some ⟨b, off, none⟩ ∧ wr.cell? ⟨b, off + q, none⟩ = some (.int .u32 (l.getD q 0)) := by
  rcases h with ⟨_, _, _, _, rfl⟩ | ⟨b, off, cap, hv, hb, hc⟩
  · simp at hq
  · obtain ⟨rfl, _⟩ := Value.slice.inj hv
    refine ⟨b, off, rfl, ?_⟩
    rw [hB.cell (hF b hb)]
    have hx : l[q]? = some (l.getD q 0) := by simp [List.getD, hq]
    have := hc q _ hx 0 _ rfl
    simpa using this
set_option maxRecDepth 100000 in
set_option maxHeartbeats 3200000 in
theorem offs_i64 (l : List Sv) (kept : List Int) (tl : ∀ s ∈ l, s.Typed) : ∀ x ∈ offsC l kept, -9223372036854775808 ≤ x ∧ x ≤ 9223372036854775807 := fun x hx => by
  unfold offsC at hx
  obtain ⟨k, _, rfl⟩ := List.mem_map.1 hx
  by_cases h : k.toNat < l.length
  · have e : svAt l k.toNat = l[k.toNat] := by simp [svAt, List.getD, h]
    rw [e]
    exact (tl _ (List.getElem_mem h)).t.off
  · have e : svAt l k.toNat = ⟨0, 0, 0, 0, 0, ⟨0, 0, 0, 0, 0⟩, 0⟩ := by simp [svAt, List.getD, h]
    rw [e]
    exact ⟨by decide, by decide⟩
theorem dist_i64 (p : Pm) (l : List Sv) (kept : List Int) (at_ : Int) : ∀ x ∈ distC p l kept at_, -9223372036854775808 ≤ x ∧ x ≤ 9223372036854775807 := fun x hx => by
  unfold distC at hx
  obtain ⟨k, _, rfl⟩ := List.mem_map.1 hx
  unfold distI addI
  have := cutI_range (addI (dist0 (svAt l k.toNat)) (mulI p.phi (max 0 (subI at_ (svAt l k.toNat).t.at_))) + (svAt l k.toNat).t.jit)
  unfold addI at this
  omega
theorem addI18 (a b : Int) : -9223372036854775808 ≤ addI a b ∧ addI a b ≤ 9223372036854775807 := by
  have := cutI_range (a + b)
  unfold addI
  omega
theorem subI18 (a b : Int) : -9223372036854775808 ≤ subI a b ∧ subI a b ≤ 9223372036854775807 := by
  have := cutI_range (a - b)
  unfold subI
  omega
theorem mulI18 (a b : Int) : -9223372036854775808 ≤ mulI a b ∧ mulI a b ≤ 9223372036854775807 := by
  have := cutI_range (a * b / 4294967296)
  unfold mulI
  omega
theorem absI18 (a : Int) : -9223372036854775808 ≤ absI a ∧ absI a ≤ 9223372036854775807 := by
  have := cutI_range (sizeI a)
  unfold absI
  omega
theorem jitC18 (o d : List Int) (b : Int) : -9223372036854775808 ≤ jitC o d b ∧ jitC o d b ≤ 9223372036854775807 := by
  unfold jitC
  have h1 := (divI_range (sumJ o d b (lenC o d)) (sumW d (lenC o d))).2
  have h2 := rootI_nonneg (divI (sumJ o d b (lenC o d)) (sumW d (lenC o d)))
  have h3 := rootI_lt _ h1
  omega
theorem cell_lt18 {w : World} {b j : Nat} {v : Value} (h : w.cell? ⟨b, j, none⟩ = some v) : b < w.heap.size := by
  by_cases hb : b < w.heap.size
  · exact hb
  · rw [World.cell?] at h
    simp [Array.getElem?_eq_none (Nat.le_of_not_lt hb)] at h
theorem take_snoc18 {α : Type} {l : List α} {q : Nat} {x : α} (h : l[q]? = some x) : l.take (q + 1) = l.take q ++ [x] := by
  obtain ⟨h1, rfl⟩ := List.getElem?_eq_some_iff.1 h
  exact List.take_succ_eq_append_getElem h1
theorem info_i64_18 : (Try.prog.info? 2).map (fun i => (i.zero, i.size, i.bytes)) = some (some (.int .i64 0), 1, 8) := by kernel_rfl
def pmA (p : Pm) : Array Value := #[.int .i64 p.step, .int .i64 p.watch, .int .i64 p.panic, .int .i64 p.maxrate, .int .i64 p.phi, .int .i64 p.maxdist, .int .i64 p.gate, .int .i64 p.minpoll, .int .i64 p.maxpoll, .int .i64 p.burst, .int .i64 p.minsane, .int .i64 p.minleft]
end Go.Proofs.Ytekdablolacgfaa.W
