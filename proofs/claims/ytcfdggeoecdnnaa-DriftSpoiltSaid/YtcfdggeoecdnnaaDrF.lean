/- Layer 9's own code, walked: a disk in memory; made, told, cut. -/
import Derived.Test.YtcfdggeoecdnnaaDrD
import Derived.Laws.CopyOwn
import Derived.Defers
import Derived.Recover
import Derived.Laws.Pointers
namespace Go.Proofs.Ytcfdggeoecdnnaa.W
open Go.RowKit Go.Sort
set_option linter.unusedVariables false
set_option linter.unusedSimpArgs false
/-- A disk's cells. -/
def dkC (d : Dk) : List Value := bc d.s ++ [.int .i64 (max d.left 0), .bool (decide (0 ≤ d.left)), .bool d.off]
/-- The code's disk at block p. -/
def DkIn (F : Nat → Prop) (w : World) (p : Nat) (d : Dk) : Prop :=
  F p ∧ (∀ k, F k → k < w.heap.size) ∧ w.heap[p]? = some (.cells (dkC d).toArray 45 (0, 0))
theorem DkIn.kept {F G : Nat → Prop} {w w' : World} {p : Nat} {d : Dk} (h : DkIn F w p d) (t : Touch G w w') (hd : ∀ k, F k → ¬ G k) : DkIn F w' p d := by
  obtain ⟨h1, h2, h3⟩ := h
  exact ⟨h1, fun k hk => Nat.lt_of_lt_of_le (h2 k hk) t.size, (t.block p (h2 p h1) (hd p h1)).trans h3⟩
theorem DkIn.mono {F G : Nat → Prop} {w : World} {p : Nat} {d : Dk} (h : DkIn F w p d) (hFG : ∀ k, F k → G k) (hG : ∀ k, G k → k < w.heap.size) : DkIn G w p d :=
  ⟨hFG p h.1, hG, h.2.2⟩
theorem DkIn.lt {F : Nat → Prop} {w : World} {p : Nat} {d : Dk} (h : DkIn F w p d) : ∀ k, F k → k < w.heap.size := h.2.1
theorem dk_byte {w : World} {p : Nat} {d : Dk} (ok : d.Ok) (h : w.heap[p]? = some (.cells (dkC d).toArray 45 (0, 0))) (j : Nat) (hj : j < 32) : w.cell? ⟨p, j, none⟩ = some (.int .u8 (byteAt d.s j)) := by
  have hj' : j < d.s.length := by rw [ok.s]; exact hj
  unfold byteAt
  rw [List.getD_eq_getElem?_getD, List.getElem?_eq_getElem hj', Option.getD_some]
  have : (dkC d)[j]? = some (.int .u8 (d.s[j].toNat : Int)) := by
    unfold dkC
    rw [List.getElem?_append_left (by rw [bc_length]; exact hj')]
    simp [bc, List.getElem?_eq_getElem hj']
  simp [World.cell?, h, this]
theorem dk_cells {w : World} {p : Nat} {d : Dk} (ok : d.Ok) (h : w.heap[p]? = some (.cells (dkC d).toArray 45 (0, 0))) :
    w.cell? ⟨p, 32, none⟩ = some (.int .i64 (max d.left 0)) ∧ w.cell? ⟨p, 33, none⟩ = some (.bool (decide (0 ≤ d.left))) ∧ w.cell? ⟨p, 34, none⟩ = some (.bool d.off) ∧ w.frozen? ⟨p, 32, none⟩ = false ∧ w.frozen? ⟨p, 33, none⟩ = false ∧ w.frozen? ⟨p, 34, none⟩ = false := by
  have hl : (bc d.s).length = 32 := by rw [bc_length]; exact ok.s
  have e : ∀ j, (dkC d)[32 + j]? = [Value.int .i64 (max d.left 0), .bool (decide (0 ≤ d.left)), .bool d.off][j]? := by
    intro j
    unfold dkC
    rw [List.getElem?_append_right (by omega), hl, Nat.add_sub_cancel_left]
  have e0 := e 0
  have e1 := e 1
  have e2 := e 2
  refine ⟨?_, ?_, ?_, ?_, ?_, ?_⟩
  · simp [World.cell?, h, e0]
  · simp [World.cell?, h, e1]
  · simp [World.cell?, h, e2]
  all_goals simp [World.frozen?, h]
theorem info_byte : (Try.prog.info? 5).map (·.size) = some 1 := by kernel_rfl
/-- A text copied over a row's first bytes. -/
theorem copy_str (w : World) (ty : TypeId) (g n cap : Nat) (l : List UInt8) (cur : List Value) (t : TypeId) (hg : w.heap[g]? = some (.cells cur.toArray t (0, 0))) (hn : n ≤ cur.length) :
    (Builtin.copy_ #[38, 9] ty #[.slice (some ⟨g, 0, none⟩) n cap, .string (bs l)]).run Try.prog w = .ok (goInt ((min l.length n : Nat) : Int)) (w.setRow g (bc (l.take n) ++ cur.drop (min l.length n)).toArray) := by
  have htl : (bc (l.take n)).length = min l.length n := by rw [bc_length, List.length_take, Nat.min_comm]
  have h1 : ∀ v ∈ bc (l.take n), v.oneCell' = true := by
    intro v hv
    simp only [bc, List.mem_map] at hv
    obtain ⟨b, _, rfl⟩ := hv
    rfl
  have hst := run_storeCells_at Try.prog g 0 t (bc (l.take n)) 0 cur.toArray w hg (by rw [htl]; simp; omega) h1
  have hf : List.take (l.length.min n) (List.map (fun b : UInt8 => Value.int .u8 (b.toNat : Int)) (bs l).data.toList) = bc (l.take n) := by
    have e : (bs l).data.toList = l := by simp [bs]
    have e2 : l.length.min n = min n l.length := Nat.min_comm _ _
    rw [e, e2]
    unfold bc
    rw [← List.map_take]
    congr 1
    exact List.take_eq_take_iff.2 (by omega)
  rw [htl] at hst
  simp only [Nat.add_zero, Nat.zero_add] at hst
  have hs := info_byte
  cases hq : Try.prog.info? 5 with
  | none => simp [hq] at hs
  | some i =>
    simp [Builtin.copy_, run_underlying Try.underlying38, Builtin.lenOf, Builtin.firstCells, sizeOf, typeInfo, hq, bs_size]
    rw [hf, hst]
    rfl
theorem below_one' (w : World) (o : Obj) : Below w.heap.size w (w.alloc o) := Below.alloc (Below.refl _ _) (Nat.le_refl _) _
def zD : Dk := ⟨List.replicate 32 0, -1, false⟩
theorem dk_zero : (dkC zD).toArray = #[.int .u8 0, .int .u8 0, .int .u8 0, .int .u8 0, .int .u8 0, .int .u8 0, .int .u8 0, .int .u8 0, .int .u8 0, .int .u8 0, .int .u8 0, .int .u8 0, .int .u8 0, .int .u8 0, .int .u8 0, .int .u8 0, .int .u8 0, .int .u8 0, .int .u8 0, .int .u8 0, .int .u8 0, .int .u8 0, .int .u8 0, .int .u8 0, .int .u8 0, .int .u8 0, .int .u8 0, .int .u8 0, .int .u8 0, .int .u8 0, .int .u8 0, .int .u8 0, .int .i64 0, .bool false, .bool false] := rfl
theorem fill_disk (s : List UInt8) : bc (s.take 32) ++ (dkC zD).drop (min s.length 32) = dkC (newD s) := by
  have e : (s ++ List.replicate 32 (0 : UInt8)).take 32 = s.take 32 ++ (List.replicate 32 (0 : UInt8)).drop (min s.length 32) := by
    rw [List.take_append, List.take_replicate, List.drop_replicate]
    congr 2
    omega
  unfold dkC newD zD
  simp only []
  rw [e, List.drop_append_of_le_length (by rw [bc_length, List.length_replicate]; omega)]
  simp only [bc, List.map_append, List.map_drop, List.append_assoc]
set_option maxHeartbeats 6400000 in
theorem knew_any (s : List UInt8) (hs : s.length ≤ 1000000) (w : World) :
    Calls Try.prog 8 #[.string (bs s)] w fun e w' => ∃ p, e = .returned (.pointer (some ⟨p, 0, none⟩)) ∧ DkIn (fun k => w.heap.size ≤ k ∧ k < w'.heap.size) w' p (newD s) ∧ Below w.heap.size w w' := by
  have h1 := heap_alloc_new w (.cells (dkC zD).toArray 45)
  have cp := fun ty => copy_str _ ty w.heap.size 32 32 s (dkC zD) 45 h1 (by decide)
  rw [fill_disk] at cp
  have h2 := setRow_heap _ _ _ (dkC (newD s)).toArray _ _ h1
  have hB := below_setRow (below_one' w (.cells (dkC zD).toArray 45)) (Nat.le_refl _) (dkC (newD s)).toArray
  rw [dk_zero] at cp h1 h2 hB
  generalize hC : (dkC (newD s)).toArray = C at *
  have hl := (Array.getElem?_eq_some_iff.1 h2).1
  go_enter Try.func8, Try.ntmps8
  go_wp2_with fail
  go_ret
  exact ⟨_, rfl, ⟨⟨Nat.le_refl _, hl⟩, fun k hk => hk.2, by rw [hC]; exact h2⟩, hB⟩
set_option maxHeartbeats 6400000 in
theorem kbytes_any {F : Nat → Prop} {p : Nat} {d : Dk} (ok : d.Ok) (w : World) (h : DkIn F w p d) :
    Calls Try.prog 12 #[.pointer (some ⟨p, 0, none⟩)] w fun e w' => e = .returned (.string (bs d.s)) ∧ Below w.heap.size w w' := by
  obtain ⟨h1, h2, h3⟩ := h
  have cv := bytes_in d.s 32 w p 0 (fun j hj => by rw [Nat.zero_add]; exact dk_byte ok h3 j (by rw [ok.s] at hj; exact hj))
  rw [ok.s] at cv
  clear h1 h2 h3
  go_enter Try.func12, Try.ntmps12
  go_wp2_with fail
  go_ret
  exact ⟨rfl, Below.refl _ _⟩
set_option maxHeartbeats 6400000 in
theorem kdead_w {F : Nat → Prop} {p : Nat} {d : Dk} (ok : d.Ok) (w : World) (h : DkIn F w p d) :
    Calls Try.prog 13 #[.pointer (some ⟨p, 0, none⟩)] w fun e w' => e = .returned (.bool d.off) ∧ w = w' := by
  obtain ⟨h1, h2, h3⟩ := h
  obtain ⟨c0, c1, c2, z0, z1, z2⟩ := dk_cells ok h3
  clear h1 h2 h3
  go_enter Try.func13, Try.ntmps13
  go_wp2_with fail
  go_ret
  exact ⟨rfl, rfl⟩
theorem tail_set (l : List Value) (hl : l.length = 32) (a b c x : Value) :
    (l ++ [a, b, c]).toArray.setIfInBounds 32 x = (l ++ [x, b, c]).toArray ∧ (l ++ [a, b, c]).toArray.setIfInBounds 33 x = (l ++ [a, x, c]).toArray ∧ (l ++ [a, b, c]).toArray.setIfInBounds 34 x = (l ++ [a, b, x]).toArray := by
  refine ⟨?_, ?_, ?_⟩ <;> simp [List.set_append, hl]
set_option maxHeartbeats 6400000 in
theorem kcut_any {F : Nat → Prop} {p : Nat} {d : Dk} (ok : d.Ok) (n : Int) (n0 : -9223372036854775808 ≤ n) (n1 : n ≤ 9223372036854775807) (w : World) (h : DkIn F w p d) :
    Calls Try.prog 11 #[.pointer (some ⟨p, 0, none⟩), .int .i64 n] w fun e w' => e = .returned (.tuple #[]) ∧ DkIn (Gr F w w') w' p (cutD d n) ∧ Touch F w w' := by
  obtain ⟨h1, h2, h3⟩ := h
  obtain ⟨c0, c1, c2, z0, z1, z2⟩ := dk_cells ok h3
  have hl : (bc d.s).length = 32 := by rw [bc_length]; exact ok.s
  have hp := h2 p h1
  have hh : ((w.setCell ⟨p, 33, none⟩ (.bool true)).setCell ⟨p, 32, none⟩ (.int .i64 (max n 0))).heap[p]? = some (.cells (dkC (cutD d n)).toArray 45 (0, 0)) := by
    have e : (dkC (cutD d n)).toArray = ((dkC d).toArray.setIfInBounds 33 (.bool true)).setIfInBounds 32 (.int .i64 (max n 0)) := by
      unfold dkC
      rw [(tail_set _ hl _ _ _ _).2.1, (tail_set _ hl _ _ _ _).1]
      unfold cutD
      simp only []
      rw [show max (max n 0) 0 = max n 0 by omega, show decide (0 ≤ max n 0) = true from decide_eq_true (by omega)]
    rw [e]
    exact block_set _ _ (block_set _ _ h3)
  have ht := ((Touch.refl F w).setCell (p := ⟨p, 33, none⟩) (.inl h1) (.bool true)).setCell (p := ⟨p, 32, none⟩) (.inl h1) (.int .i64 (max n 0))
  clear h3
  have hm : max n 0 = n ∨ max n 0 = 0 := by omega
  go_enter Try.func11, Try.ntmps11
  go_wp2_with fail
  · rw [show max n 0 = 0 by omega] at hh ht
    go_end0
    exact ⟨rfl, ⟨.inl h1, gr_lt h2 ht.size, hh⟩, ht⟩
  · rw [show max n 0 = n by omega] at hh ht
    go_end0
    exact ⟨rfl, ⟨.inl h1, gr_lt h2 ht.size, hh⟩, ht⟩
end Go.Proofs.Ytcfdggeoecdnnaa.W
