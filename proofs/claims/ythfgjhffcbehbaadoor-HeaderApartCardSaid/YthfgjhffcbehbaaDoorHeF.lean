/- Layer 5's own code, walked: a header out of bytes. -/
import Derived.Test.YthfgjhffcbehbaaDoorRows
import Derived.Test.YthfgjhffcbehbaaDoorWdefs
import Derived.Test.YthfgjhffcbehbaaDoorHdB
import Derived.Test.YthfgjhffcbehbaaDoorHdI
import Derived.Test.YthfgjhffcbehbaaDoorHeB
import Derived.Test.YthfgjhffcbehbaaDoorHeC
import Derived.Test.YthfgjhffcbehbaaDoorHdD
import Derived.WalkKit
import Derived.WalkSpells
import Derived.WalkLawsBesides
import Derived.Lib.Hide
import Derived.Lib.Zigzag
import Derived.Handy
import Derived.OneCell
import Derived.OwnWalk

namespace Go.Proofs.YthfgjhffcbehbaaDoor.W
open Go.RowKit
set_option linter.unusedVariables false
set_option linter.unusedSimpArgs false
theorem num_one (l : List UInt8) (h : 1 ≤ l.length) : num (l.take 1) = byteAt l 0 := by
  rw [num_step l 0 h]
  simp [num]
theorem byteAt_drop (l : List UInt8) (j : Nat) : byteAt (l.drop j) 0 = byteAt l j := by
  unfold byteAt
  simp [List.getD_eq_getElem?_getD]
set_option maxHeartbeats 3200000 in
theorem small_any (b : Nat) (l : List UInt8) (hl : 1 ≤ l.length) (hl2 : l.length ≤ 4611686018427387904) (w : World) (hb : w.heap[b]? = some (.cells #[.string (bs l)] 9 (0, 0))) :
    Calls Tryd.prog 31 #[.pointer (some ⟨b, 0, none⟩)] w fun e w' => e = .returned (.int .u8 (byteAt l 0)) ∧ ∃ m, w' = (w.setCell ⟨b, 0, none⟩ (.string (bs (l.drop 1)))).drewN m := by
  have c := take_u8 l hl hl2
  rw [num_one l hl] at c
  have h1 := cell_of_one hb
  have h2 := free_of_one hb
  go_enter Tryd.func31, Tryd.ntmps31
  go_wp2_with fail
  (with_reducible refine (c _).mono ?_)
  rintro e w' ⟨rfl, m, rfl⟩
  go_wp2_with fail
  go_ret
  exact ⟨rfl, m, by rw [List.drop_one]⟩
/-- What stands behind so many steps: the text that is left, the result's block, and the header as far as it is read. -/
structure Tk (w : World) (T : ByteArray) (C : Array Value) (v : World) : Prop where
  s : v.heap[w.heap.size]? = some (.cells #[.string T] 9 (0, 0))
  r : v.heap[w.heap.size + 1]? = some (.cells #[.int .i64 0, .int .i64 0, .int .i64 0, .int .i64 0, .int .i64 0, .int .i64 0, .int .u32 0, .int .u32 0, .int .u32 0, .int .u64 0, .int .u64 0, .int .u64 0, .int .u64 0] 25 (0, 0))
  h : v.heap[w.heap.size + 2]? = some (.cells C 25 (0, 0))
  b : Below w.heap.size w v
theorem Tk.start (w : World) (T : ByteArray) (C : Array Value) : Tk w T C (((w.alloc (.cells #[.string T] 9)).alloc (.cells #[.int .i64 0, .int .i64 0, .int .i64 0, .int .i64 0, .int .i64 0, .int .i64 0, .int .u32 0, .int .u32 0, .int .u32 0, .int .u64 0, .int .u64 0, .int .u64 0, .int .u64 0] 25)).alloc (.cells C 25)) := by
  refine ⟨?_, ?_, ?_, ?_⟩
  · rw [Below.heap_alloc _ _ _ (by simp; omega), Below.heap_alloc _ _ _ (by simp)]
    exact heap_new _ _ rfl
  · rw [Below.heap_alloc _ _ _ (by simp)]
    exact heap_new _ _ (by simp)
  · exact heap_new _ _ (by simp)
  · exact Below.alloc (Below.alloc (Below.alloc (Below.refl _ _) (Nat.le_refl _) _) (by simp) _) (by simp; omega) _
theorem Tk.put {w v : World} {T T' : ByteArray} {C : Array Value} (k : Tk w T C v) : Tk w T' C (v.setCell ⟨w.heap.size, 0, none⟩ (.string T')) :=
  ⟨one_setCell k.s, blk_far _ _ (by omega) k.r, blk_far _ _ (by omega) k.h, k.b.setCell (Nat.le_refl _) _⟩
theorem Tk.set {w v : World} {T : ByteArray} {C : Array Value} (k : Tk w T C v) (j : Nat) (x : Value) : Tk w T (C.setIfInBounds j x) (v.setCell ⟨w.heap.size + 2, j, none⟩ x) :=
  ⟨blk_far _ _ (by omega) k.s, blk_far _ _ (by omega) k.r, blk_set j x k.h, k.b.setCell (by show _ ≤ w.heap.size + 2; omega) _⟩
theorem Tk.drewN {w v : World} {T : ByteArray} {C : Array Value} (k : Tk w T C v) (n : Nat) : Tk w T C (v.drewN n) := ⟨k.s, k.r, k.h, below_drewN k.b n⟩
theorem Tk.drew {w v : World} {T : ByteArray} {C : Array Value} (k : Tk w T C v) : Tk w T C v.drew := ⟨k.s, k.r, k.h, k.b.drew⟩
/-- The closure's call, between such worlds. -/
theorem small_tk {w v : World} {C : Array Value} (l : List UInt8) (j : Nat) (hl : j + 1 ≤ l.length) (hl2 : l.length ≤ 4611686018427387904) (k : Tk w (bs (l.drop j)) C v) :
    Calls Tryd.prog 31 #[.pointer (some ⟨w.heap.size, 0, none⟩)] v fun e v' => e = .returned (.int .u8 (byteAt l j)) ∧ Tk w (bs (l.drop (j + 1))) C v' := by
  refine (small_any w.heap.size (l.drop j) (by rw [List.length_drop]; omega) (by rw [List.length_drop]; omega) v k.s).mono ?_
  rintro e v' ⟨rfl, m, rfl⟩
  rw [byteAt_drop, List.drop_drop]
  exact ⟨rfl, (k.put).drewN m⟩
theorem wrap_i8 (n : Int) : IntKind.i8.wrap n = (n + 128) % 256 - 128 := by
  simp [IntKind.wrap, IntKind.bits, IntKind.signed]
  split <;> omega
theorem calls_tk {w v : World} {T : ByteArray} {C : Array Value} {f : FuncId} {a : Array Value} {x : Value} (c : ∀ v, Calls Tryd.prog f a v fun e v' => e = .returned x ∧ ∃ m, v' = v.drewN m) (k : Tk w T C v) :
    Calls Tryd.prog f a v fun e v' => e = .returned x ∧ Tk w T C v' := by
  refine (c v).mono ?_
  rintro e v' ⟨he, m, rfl⟩
  exact ⟨he, k.drewN m⟩
theorem take_part_u32 (l : List UInt8) (o : Nat) (hl : o + 4 ≤ l.length) (hl2 : l.length ≤ 4611686018427387904) (w : World) :
    Calls Tryd.prog 27 #[.string (bs (l.drop o))] w fun e w' => e = .returned (.tuple #[.int .u32 (num (cut l o (o + 4))), .string (bs (l.drop (o + 4)))]) ∧ ∃ m, w' = w.drewN m := by
  have c := take_u32 (l.drop o) (by rw [List.length_drop]; omega) (by rw [List.length_drop]; omega) w
  rw [List.drop_drop] at c
  unfold cut
  rwa [show o + 4 - o = 4 by omega]
theorem take_part_u64 (l : List UInt8) (o : Nat) (hl : o + 8 ≤ l.length) (hl2 : l.length ≤ 4611686018427387904) (w : World) :
    Calls Tryd.prog 33 #[.string (bs (l.drop o))] w fun e w' => e = .returned (.tuple #[.int .u64 (num (cut l o (o + 8))), .string (bs (l.drop (o + 8)))]) ∧ ∃ m, w' = w.drewN m := by
  have c := take_u64 (l.drop o) (by rw [List.length_drop]; omega) (by rw [List.length_drop]; omega) w
  rw [List.drop_drop] at c
  unfold cut
  rwa [show o + 8 - o = 8 by omega]
set_option maxHeartbeats 12800000 in
set_option maxRecDepth 20000 in
theorem taken_any (l : List UInt8) (hl : 48 ≤ l.length) (hl2 : l.length ≤ 4611686018427387904) (w : World)  :
    Calls Tryd.prog 24 #[.string (bs l)] w fun e w' => e = .returned (.tuple #[(decH l).val, .string (bs (l.drop 48))]) ∧ Below w.heap.size w w' := by
  have hmf : ∀ (fn : Fn) (first cap : Array Value) (w : World), (Instr.makeFunc fn first cap).run Tryd.prog w = .ok (.func fn first cap) w := fun _ _ _ _ => rfl
  have hH : (decH l).val = .agg #[.int .i64 (byteAt l 0 / 64), .int .i64 (byteAt l 0 / 8 % 8), .int .i64 (byteAt l 0 % 8), .int .i64 (byteAt l 1), .int .i64 (sgn (byteAt l 2)), .int .i64 (sgn (byteAt l 3)), .int .u32 (num (cut l 4 8)), .int .u32 (num (cut l 8 12)), .int .u32 (num (cut l 12 16)), .int .u64 (num (cut l 16 24)), .int .u64 (num (cut l 24 32)), .int .u64 (num (cut l 32 40)), .int .u64 (num (cut l 40 48))] := rfl
  rw [hH]
  clear hH
  have s0 := fun C v => small_tk (w := w) (v := v) (C := C) l 0 (by omega) hl2
  have s1 := fun C v => small_tk (w := w) (v := v) (C := C) l 1 (by omega) hl2
  have s2 := fun C v => small_tk (w := w) (v := v) (C := C) l 2 (by omega) hl2
  have s3 := fun C v => small_tk (w := w) (v := v) (C := C) l 3 (by omega) hl2
  have g4 : ∀ w, Calls Tryd.prog 27 #[.string (bs (l.drop 4))] w fun e w' => e = .returned (.tuple #[.int .u32 (num (cut l 4 8)), .string (bs (l.drop 8))]) ∧ ∃ m, w' = w.drewN m := take_part_u32 l 4 (by omega) hl2
  have g8 : ∀ w, Calls Tryd.prog 27 #[.string (bs (l.drop 8))] w fun e w' => e = .returned (.tuple #[.int .u32 (num (cut l 8 12)), .string (bs (l.drop 12))]) ∧ ∃ m, w' = w.drewN m := take_part_u32 l 8 (by omega) hl2
  have g12 : ∀ w, Calls Tryd.prog 27 #[.string (bs (l.drop 12))] w fun e w' => e = .returned (.tuple #[.int .u32 (num (cut l 12 16)), .string (bs (l.drop 16))]) ∧ ∃ m, w' = w.drewN m := take_part_u32 l 12 (by omega) hl2
  have g16 : ∀ w, Calls Tryd.prog 33 #[.string (bs (l.drop 16))] w fun e w' => e = .returned (.tuple #[.int .u64 (num (cut l 16 24)), .string (bs (l.drop 24))]) ∧ ∃ m, w' = w.drewN m := take_part_u64 l 16 (by omega) hl2
  have g24 : ∀ w, Calls Tryd.prog 33 #[.string (bs (l.drop 24))] w fun e w' => e = .returned (.tuple #[.int .u64 (num (cut l 24 32)), .string (bs (l.drop 32))]) ∧ ∃ m, w' = w.drewN m := take_part_u64 l 24 (by omega) hl2
  have g32 : ∀ w, Calls Tryd.prog 33 #[.string (bs (l.drop 32))] w fun e w' => e = .returned (.tuple #[.int .u64 (num (cut l 32 40)), .string (bs (l.drop 40))]) ∧ ∃ m, w' = w.drewN m := take_part_u64 l 32 (by omega) hl2
  have g40 : ∀ w, Calls Tryd.prog 33 #[.string (bs (l.drop 40))] w fun e w' => e = .returned (.tuple #[.int .u64 (num (cut l 40 48)), .string (bs (l.drop 48))]) ∧ ∃ m, w' = w.drewN m := take_part_u64 l 40 (by omega) hl2
  have e2 : IntKind.i8.wrap (byteAt l 2) = sgn (byteAt l 2) := by have := byteAt_range l 2; rw [wrap_i8]; unfold sgn; split <;> omega
  have e3 : IntKind.i8.wrap (byteAt l 3) = sgn (byteAt l 3) := by have := byteAt_range l 3; rw [wrap_i8]; unfold sgn; split <;> omega
  have r2 : -128 ≤ sgn (byteAt l 2) ∧ sgn (byteAt l 2) ≤ 127 := by have := byteAt_range l 2; unfold sgn; split <;> omega
  have r3 : -128 ≤ sgn (byteAt l 3) ∧ sgn (byteAt l 3) ≤ 127 := by have := byteAt_range l 3; unfold sgn; split <;> omega
  obtain ⟨n0, n1⟩ := byteAt_range l 0
  obtain ⟨m0, m1⟩ := byteAt_range l 1
  have k0 := Tk.start w (bs l) #[.int .i64 0, .int .i64 0, .int .i64 0, .int .i64 0, .int .i64 0, .int .i64 0, .int .u32 0, .int .u32 0, .int .u32 0, .int .u64 0, .int .u64 0, .int .u64 0, .int .u64 0]
  change Tk w (bs (l.drop 0)) _ _ at k0
  generalize bs (l.drop 1) = T1 at *
  generalize bs (l.drop 2) = T2 at *
  generalize bs (l.drop 3) = T3 at *
  generalize bs (l.drop 4) = T4 at *
  generalize bs (l.drop 8) = T8 at *
  generalize bs (l.drop 12) = T12 at *
  generalize bs (l.drop 16) = T16 at *
  generalize bs (l.drop 24) = T24 at *
  generalize bs (l.drop 32) = T32 at *
  generalize bs (l.drop 40) = T40 at *
  generalize bs (l.drop 48) = T48 at *
  generalize num (cut l 4 8) = y6 at *
  generalize num (cut l 8 12) = y7 at *
  generalize num (cut l 12 16) = y8 at *
  generalize num (cut l 16 24) = y9 at *
  generalize num (cut l 24 32) = y10 at *
  generalize num (cut l 32 40) = y11 at *
  generalize num (cut l 40 48) = y12 at *
  generalize sgn (byteAt l 2) = x4 at *
  generalize sgn (byteAt l 3) = x5 at *
  generalize byteAt l 0 = c0 at *
  generalize byteAt l 1 = x3 at *
  generalize byteAt l 2 = c2 at *
  generalize byteAt l 3 = c3 at *
  go_enter Tryd.func24, Tryd.ntmps24
  go_wp2_with fail
  generalize ((w.alloc (.cells #[.string (bs l)] 9)).alloc (.cells #[.int .i64 0, .int .i64 0, .int .i64 0, .int .i64 0, .int .i64 0, .int .i64 0, .int .u32 0, .int .u32 0, .int .u32 0, .int .u64 0, .int .u64 0, .int .u64 0, .int .u64 0] 25)).alloc (.cells #[.int .i64 0, .int .i64 0, .int .i64 0, .int .i64 0, .int .i64 0, .int .i64 0, .int .u32 0, .int .u32 0, .int .u32 0, .int .u64 0, .int .u64 0, .int .u64 0, .int .u64 0] 25) = v0 at *
  (with_reducible refine (s0 _ _ k0).mono ?_)
  rintro e v1 ⟨rfl, q1⟩
  clear k0 
  have hC0 := (blk_at q1.h 0 (by simp)).1
  have hF0 := (blk_at q1.h 0 (by simp)).2
  have hC1 := (blk_at q1.h 1 (by simp)).1
  have hF1 := (blk_at q1.h 1 (by simp)).2
  have hC2 := (blk_at q1.h 2 (by simp)).1
  have hF2 := (blk_at q1.h 2 (by simp)).2
  simp only [List.getElem_toArray, List.getElem_cons_zero, List.getElem_cons_succ] at hC0 hC1 hC2
  go_wp2_with fail
  have k1 : Tk w T1 #[.int .i64 (c0 / 64), .int .i64 (c0 / 8 % 8), .int .i64 (c0 % 8), .int .i64 0, .int .i64 0, .int .i64 0, .int .u32 0, .int .u32 0, .int .u32 0, .int .u64 0, .int .u64 0, .int .u64 0, .int .u64 0] (((v1.setCell ⟨w.heap.size + 2, 0, none⟩ (.int .i64 (c0 / 64))).setCell ⟨w.heap.size + 2, 1, none⟩ (.int .i64 (c0 / 8 % 8))).setCell ⟨w.heap.size + 2, 2, none⟩ (.int .i64 (c0 % 8))) := (((q1).set 0 _).set 1 _).set 2 _
  (with_reducible refine (s1 _ _ k1).mono ?_)
  rintro e v2 ⟨rfl, q2⟩
  clear k1 hC0 hF0 hC1 hF1 hC2 hF2
  have hC3 := (blk_at q2.h 3 (by simp)).1
  have hF3 := (blk_at q2.h 3 (by simp)).2
  simp only [List.getElem_toArray, List.getElem_cons_zero, List.getElem_cons_succ] at hC3
  go_wp2_with fail
  have k2 : Tk w T2 #[.int .i64 (c0 / 64), .int .i64 (c0 / 8 % 8), .int .i64 (c0 % 8), .int .i64 x3, .int .i64 0, .int .i64 0, .int .u32 0, .int .u32 0, .int .u32 0, .int .u64 0, .int .u64 0, .int .u64 0, .int .u64 0] (v2.setCell ⟨w.heap.size + 2, 3, none⟩ (.int .i64 x3)) := (q2).set 3 _
  (with_reducible refine (s2 _ _ k2).mono ?_)
  rintro e v3 ⟨rfl, q3⟩
  clear k2 hC3 hF3
  have hC4 := (blk_at q3.h 4 (by simp)).1
  have hF4 := (blk_at q3.h 4 (by simp)).2
  simp only [List.getElem_toArray, List.getElem_cons_zero, List.getElem_cons_succ] at hC4
  go_wp2_with fail
  have k3 : Tk w T3 #[.int .i64 (c0 / 64), .int .i64 (c0 / 8 % 8), .int .i64 (c0 % 8), .int .i64 x3, .int .i64 x4, .int .i64 0, .int .u32 0, .int .u32 0, .int .u32 0, .int .u64 0, .int .u64 0, .int .u64 0, .int .u64 0] (v3.setCell ⟨w.heap.size + 2, 4, none⟩ (.int .i64 x4)) := (q3).set 4 _
  (with_reducible refine (s3 _ _ k3).mono ?_)
  rintro e v4 ⟨rfl, q4⟩
  clear k3 hC4 hF4
  have sC := (blk_at q4.s 0 (by simp)).1
  have sF := (blk_at q4.s 0 (by simp)).2
  have hC5 := (blk_at q4.h 5 (by simp)).1
  have hF5 := (blk_at q4.h 5 (by simp)).2
  simp only [List.getElem_toArray, List.getElem_cons_zero, List.getElem_cons_succ] at sC hC5
  go_wp2_with fail
  have k4 : Tk w T4 #[.int .i64 (c0 / 64), .int .i64 (c0 / 8 % 8), .int .i64 (c0 % 8), .int .i64 x3, .int .i64 x4, .int .i64 x5, .int .u32 0, .int .u32 0, .int .u32 0, .int .u64 0, .int .u64 0, .int .u64 0, .int .u64 0] (v4.setCell ⟨w.heap.size + 2, 5, none⟩ (.int .i64 x5)) := (q4).set 5 _
  (with_reducible refine (calls_tk g4 k4).mono ?_)
  rintro e v5 ⟨rfl, q5⟩
  clear k4 sC sF hC5 hF5 g4
  have sC := (blk_at q5.s 0 (by simp)).1
  have sF := (blk_at q5.s 0 (by simp)).2
  have hC6 := (blk_at q5.h 6 (by simp)).1
  have hF6 := (blk_at q5.h 6 (by simp)).2
  simp only [List.getElem_toArray, List.getElem_cons_zero, List.getElem_cons_succ] at sC hC6
  go_wp2_with fail
  have k5 : Tk w T8 #[.int .i64 (c0 / 64), .int .i64 (c0 / 8 % 8), .int .i64 (c0 % 8), .int .i64 x3, .int .i64 x4, .int .i64 x5, .int .u32 y6, .int .u32 0, .int .u32 0, .int .u64 0, .int .u64 0, .int .u64 0, .int .u64 0] ((v5.setCell ⟨w.heap.size + 2, 6, none⟩ (.int .u32 y6)).setCell ⟨w.heap.size, 0, none⟩ (.string T8)) := ((q5).set 6 _).put
  (with_reducible refine (calls_tk g8 k5).mono ?_)
  rintro e v6 ⟨rfl, q6⟩
  clear k5 sC sF hC6 hF6 g8
  have sC := (blk_at q6.s 0 (by simp)).1
  have sF := (blk_at q6.s 0 (by simp)).2
  have hC7 := (blk_at q6.h 7 (by simp)).1
  have hF7 := (blk_at q6.h 7 (by simp)).2
  simp only [List.getElem_toArray, List.getElem_cons_zero, List.getElem_cons_succ] at sC hC7
  go_wp2_with fail
  have k6 : Tk w T12 #[.int .i64 (c0 / 64), .int .i64 (c0 / 8 % 8), .int .i64 (c0 % 8), .int .i64 x3, .int .i64 x4, .int .i64 x5, .int .u32 y6, .int .u32 y7, .int .u32 0, .int .u64 0, .int .u64 0, .int .u64 0, .int .u64 0] ((v6.setCell ⟨w.heap.size + 2, 7, none⟩ (.int .u32 y7)).setCell ⟨w.heap.size, 0, none⟩ (.string T12)) := ((q6).set 7 _).put
  (with_reducible refine (calls_tk g12 k6).mono ?_)
  rintro e v7 ⟨rfl, q7⟩
  clear k6 sC sF hC7 hF7 g12
  have sC := (blk_at q7.s 0 (by simp)).1
  have sF := (blk_at q7.s 0 (by simp)).2
  have hC8 := (blk_at q7.h 8 (by simp)).1
  have hF8 := (blk_at q7.h 8 (by simp)).2
  simp only [List.getElem_toArray, List.getElem_cons_zero, List.getElem_cons_succ] at sC hC8
  go_wp2_with fail
  have k7 : Tk w T16 #[.int .i64 (c0 / 64), .int .i64 (c0 / 8 % 8), .int .i64 (c0 % 8), .int .i64 x3, .int .i64 x4, .int .i64 x5, .int .u32 y6, .int .u32 y7, .int .u32 y8, .int .u64 0, .int .u64 0, .int .u64 0, .int .u64 0] ((v7.setCell ⟨w.heap.size + 2, 8, none⟩ (.int .u32 y8)).setCell ⟨w.heap.size, 0, none⟩ (.string T16)) := ((q7).set 8 _).put
  (with_reducible refine (calls_tk g16 k7).mono ?_)
  rintro e v8 ⟨rfl, q8⟩
  clear k7 sC sF hC8 hF8 g16
  have sC := (blk_at q8.s 0 (by simp)).1
  have sF := (blk_at q8.s 0 (by simp)).2
  have hC9 := (blk_at q8.h 9 (by simp)).1
  have hF9 := (blk_at q8.h 9 (by simp)).2
  simp only [List.getElem_toArray, List.getElem_cons_zero, List.getElem_cons_succ] at sC hC9
  go_wp2_with fail
  have k8 : Tk w T24 #[.int .i64 (c0 / 64), .int .i64 (c0 / 8 % 8), .int .i64 (c0 % 8), .int .i64 x3, .int .i64 x4, .int .i64 x5, .int .u32 y6, .int .u32 y7, .int .u32 y8, .int .u64 y9, .int .u64 0, .int .u64 0, .int .u64 0] ((v8.setCell ⟨w.heap.size + 2, 9, none⟩ (.int .u64 y9)).setCell ⟨w.heap.size, 0, none⟩ (.string T24)) := ((q8).set 9 _).put
  (with_reducible refine (calls_tk g24 k8).mono ?_)
  rintro e v9 ⟨rfl, q9⟩
  clear k8 sC sF hC9 hF9 g24
  have sC := (blk_at q9.s 0 (by simp)).1
  have sF := (blk_at q9.s 0 (by simp)).2
  have hC10 := (blk_at q9.h 10 (by simp)).1
  have hF10 := (blk_at q9.h 10 (by simp)).2
  simp only [List.getElem_toArray, List.getElem_cons_zero, List.getElem_cons_succ] at sC hC10
  go_wp2_with fail
  have k9 : Tk w T32 #[.int .i64 (c0 / 64), .int .i64 (c0 / 8 % 8), .int .i64 (c0 % 8), .int .i64 x3, .int .i64 x4, .int .i64 x5, .int .u32 y6, .int .u32 y7, .int .u32 y8, .int .u64 y9, .int .u64 y10, .int .u64 0, .int .u64 0] ((v9.setCell ⟨w.heap.size + 2, 10, none⟩ (.int .u64 y10)).setCell ⟨w.heap.size, 0, none⟩ (.string T32)) := ((q9).set 10 _).put
  (with_reducible refine (calls_tk g32 k9).mono ?_)
  rintro e v10 ⟨rfl, q10⟩
  clear k9 sC sF hC10 hF10 g32
  have sC := (blk_at q10.s 0 (by simp)).1
  have sF := (blk_at q10.s 0 (by simp)).2
  have hC11 := (blk_at q10.h 11 (by simp)).1
  have hF11 := (blk_at q10.h 11 (by simp)).2
  simp only [List.getElem_toArray, List.getElem_cons_zero, List.getElem_cons_succ] at sC hC11
  go_wp2_with fail
  have k10 : Tk w T40 #[.int .i64 (c0 / 64), .int .i64 (c0 / 8 % 8), .int .i64 (c0 % 8), .int .i64 x3, .int .i64 x4, .int .i64 x5, .int .u32 y6, .int .u32 y7, .int .u32 y8, .int .u64 y9, .int .u64 y10, .int .u64 y11, .int .u64 0] ((v10.setCell ⟨w.heap.size + 2, 11, none⟩ (.int .u64 y11)).setCell ⟨w.heap.size, 0, none⟩ (.string T40)) := ((q10).set 11 _).put
  (with_reducible refine (calls_tk g40 k10).mono ?_)
  rintro e v11 ⟨rfl, q11⟩
  clear k10 sC sF hC11 hF11 g40
  have sC := (blk_at q11.s 0 (by simp)).1
  have sF := (blk_at q11.s 0 (by simp)).2
  have hC12 := (blk_at q11.h 12 (by simp)).1
  have hF12 := (blk_at q11.h 12 (by simp)).2
  simp only [List.getElem_toArray, List.getElem_cons_zero, List.getElem_cons_succ] at sC hC12
  go_wp2_with fail
  have k11 : Tk w T48 #[.int .i64 (c0 / 64), .int .i64 (c0 / 8 % 8), .int .i64 (c0 % 8), .int .i64 x3, .int .i64 x4, .int .i64 x5, .int .u32 y6, .int .u32 y7, .int .u32 y8, .int .u64 y9, .int .u64 y10, .int .u64 y11, .int .u64 y12] ((v11.setCell ⟨w.heap.size + 1 + 1, 12, none⟩ (.int .u64 y12)).setCell ⟨w.heap.size, 0, none⟩ (.string T48)) := ((q11).set 12 _).put
  clear sC sF hC12 hF12 q11
  generalize ((v11.setCell ⟨w.heap.size + 1 + 1, 12, none⟩ (.int .u64 y12)).setCell ⟨w.heap.size, 0, none⟩ (.string T48)) = W7 at *
  have c0_ := (blk_at k11.h 0 (by simp)).1
  have r0_ := (blk_at k11.r 0 (by simp)).1
  have q0_ := (blk_at k11.r 0 (by simp)).2
  have c1_ := (blk_at k11.h 1 (by simp)).1
  have r1_ := (blk_at k11.r 1 (by simp)).1
  have q1_ := (blk_at k11.r 1 (by simp)).2
  have c2_ := (blk_at k11.h 2 (by simp)).1
  have r2_ := (blk_at k11.r 2 (by simp)).1
  have q2_ := (blk_at k11.r 2 (by simp)).2
  have c3_ := (blk_at k11.h 3 (by simp)).1
  have r3_ := (blk_at k11.r 3 (by simp)).1
  have q3_ := (blk_at k11.r 3 (by simp)).2
  have c4_ := (blk_at k11.h 4 (by simp)).1
  have r4_ := (blk_at k11.r 4 (by simp)).1
  have q4_ := (blk_at k11.r 4 (by simp)).2
  have c5_ := (blk_at k11.h 5 (by simp)).1
  have r5_ := (blk_at k11.r 5 (by simp)).1
  have q5_ := (blk_at k11.r 5 (by simp)).2
  have c6_ := (blk_at k11.h 6 (by simp)).1
  have r6_ := (blk_at k11.r 6 (by simp)).1
  have q6_ := (blk_at k11.r 6 (by simp)).2
  have c7_ := (blk_at k11.h 7 (by simp)).1
  have r7_ := (blk_at k11.r 7 (by simp)).1
  have q7_ := (blk_at k11.r 7 (by simp)).2
  have c8_ := (blk_at k11.h 8 (by simp)).1
  have r8_ := (blk_at k11.r 8 (by simp)).1
  have q8_ := (blk_at k11.r 8 (by simp)).2
  have c9_ := (blk_at k11.h 9 (by simp)).1
  have r9_ := (blk_at k11.r 9 (by simp)).1
  have q9_ := (blk_at k11.r 9 (by simp)).2
  have c10_ := (blk_at k11.h 10 (by simp)).1
  have r10_ := (blk_at k11.r 10 (by simp)).1
  have q10_ := (blk_at k11.r 10 (by simp)).2
  have c11_ := (blk_at k11.h 11 (by simp)).1
  have r11_ := (blk_at k11.r 11 (by simp)).1
  have q11_ := (blk_at k11.r 11 (by simp)).2
  have c12_ := (blk_at k11.h 12 (by simp)).1
  have r12_ := (blk_at k11.r 12 (by simp)).1
  have q12_ := (blk_at k11.r 12 (by simp)).2
  have sC := (blk_at k11.s 0 (by simp)).1
  simp only [List.getElem_toArray, List.getElem_cons_zero, List.getElem_cons_succ] at sC c0_ r0_ c1_ r1_ c2_ r2_ c3_ r3_ c4_ r4_ c5_ r5_ c6_ r6_ c7_ r7_ c8_ r8_ c9_ r9_ c10_ r10_ c11_ r11_ c12_ r12_
  have Z7 := Lib.hid k11.r
  have B7 := k11.b
  have hz := B7.size
  clear k11
  go_region
  all_goals
    simp only [Exit.then]
    refine ‹∀ (a : Act) (w : World), Code.wp _ _ _ a w → _› _ _ ?_
    have b8 : (World.drew (((((((((((((W7.setCell ⟨w.heap.size + 1, 0, none⟩ (.int .i64 (c0 / 64))).setCell ⟨w.heap.size + 1, 1, none⟩ (.int .i64 (c0 / 8 % 8))).setCell ⟨w.heap.size + 1, 2, none⟩ (.int .i64 (c0 % 8))).setCell ⟨w.heap.size + 1, 3, none⟩ (.int .i64 x3)).setCell ⟨w.heap.size + 1, 4, none⟩ (.int .i64 x4)).setCell ⟨w.heap.size + 1, 5, none⟩ (.int .i64 x5)).setCell ⟨w.heap.size + 1, 6, none⟩ (.int .u32 y6)).setCell ⟨w.heap.size + 1, 7, none⟩ (.int .u32 y7)).setCell ⟨w.heap.size + 1, 8, none⟩ (.int .u32 y8)).setCell ⟨w.heap.size + 1, 9, none⟩ (.int .u64 y9)).setCell ⟨w.heap.size + 1, 10, none⟩ (.int .u64 y10)).setCell ⟨w.heap.size + 1, 11, none⟩ (.int .u64 y11)).setCell ⟨w.heap.size + 1, 12, none⟩ (.int .u64 y12))).heap[w.heap.size + 1]? = some (.cells #[.int .i64 (c0 / 64), .int .i64 (c0 / 8 % 8), .int .i64 (c0 % 8), .int .i64 x3, .int .i64 x4, .int .i64 x5, .int .u32 y6, .int .u32 y7, .int .u32 y8, .int .u64 y9, .int .u64 y10, .int .u64 y11, .int .u64 y12] 25 (0, 0)) := by rw [drew_heap]; exact blk_fill _ _ _ _ _ _ _ _ _ _ _ _ _ _ _ _ _ _ _ _ _ _ _ _ _ _ _ _ _ Z7.out
    have B8 : Below w.heap.size w (World.drew (((((((((((((W7.setCell ⟨w.heap.size + 1, 0, none⟩ (.int .i64 (c0 / 64))).setCell ⟨w.heap.size + 1, 1, none⟩ (.int .i64 (c0 / 8 % 8))).setCell ⟨w.heap.size + 1, 2, none⟩ (.int .i64 (c0 % 8))).setCell ⟨w.heap.size + 1, 3, none⟩ (.int .i64 x3)).setCell ⟨w.heap.size + 1, 4, none⟩ (.int .i64 x4)).setCell ⟨w.heap.size + 1, 5, none⟩ (.int .i64 x5)).setCell ⟨w.heap.size + 1, 6, none⟩ (.int .u32 y6)).setCell ⟨w.heap.size + 1, 7, none⟩ (.int .u32 y7)).setCell ⟨w.heap.size + 1, 8, none⟩ (.int .u32 y8)).setCell ⟨w.heap.size + 1, 9, none⟩ (.int .u64 y9)).setCell ⟨w.heap.size + 1, 10, none⟩ (.int .u64 y10)).setCell ⟨w.heap.size + 1, 11, none⟩ (.int .u64 y11)).setCell ⟨w.heap.size + 1, 12, none⟩ (.int .u64 y12))) := Below.drew (Below.setCell (Below.setCell (Below.setCell (Below.setCell (Below.setCell (Below.setCell (Below.setCell (Below.setCell (Below.setCell (Below.setCell (Below.setCell (Below.setCell (Below.setCell (B7) (Nat.le_succ _) _) (Nat.le_succ _) _) (Nat.le_succ _) _) (Nat.le_succ _) _) (Nat.le_succ _) _) (Nat.le_succ _) _) (Nat.le_succ _) _) (Nat.le_succ _) _) (Nat.le_succ _) _) (Nat.le_succ _) _) (Nat.le_succ _) _) (Nat.le_succ _) _) (Nat.le_succ _) _)
    generalize World.drew (((((((((((((W7.setCell ⟨w.heap.size + 1, 0, none⟩ (.int .i64 (c0 / 64))).setCell ⟨w.heap.size + 1, 1, none⟩ (.int .i64 (c0 / 8 % 8))).setCell ⟨w.heap.size + 1, 2, none⟩ (.int .i64 (c0 % 8))).setCell ⟨w.heap.size + 1, 3, none⟩ (.int .i64 x3)).setCell ⟨w.heap.size + 1, 4, none⟩ (.int .i64 x4)).setCell ⟨w.heap.size + 1, 5, none⟩ (.int .i64 x5)).setCell ⟨w.heap.size + 1, 6, none⟩ (.int .u32 y6)).setCell ⟨w.heap.size + 1, 7, none⟩ (.int .u32 y7)).setCell ⟨w.heap.size + 1, 8, none⟩ (.int .u32 y8)).setCell ⟨w.heap.size + 1, 9, none⟩ (.int .u64 y9)).setCell ⟨w.heap.size + 1, 10, none⟩ (.int .u64 y10)).setCell ⟨w.heap.size + 1, 11, none⟩ (.int .u64 y11)).setCell ⟨w.heap.size + 1, 12, none⟩ (.int .u64 y12)) = W8 at *
    have d0_ := (blk_at b8 0 (by simp)).1
    have d1_ := (blk_at b8 1 (by simp)).1
    have d2_ := (blk_at b8 2 (by simp)).1
    have d3_ := (blk_at b8 3 (by simp)).1
    have d4_ := (blk_at b8 4 (by simp)).1
    have d5_ := (blk_at b8 5 (by simp)).1
    have d6_ := (blk_at b8 6 (by simp)).1
    have d7_ := (blk_at b8 7 (by simp)).1
    have d8_ := (blk_at b8 8 (by simp)).1
    have d9_ := (blk_at b8 9 (by simp)).1
    have d10_ := (blk_at b8 10 (by simp)).1
    have d11_ := (blk_at b8 11 (by simp)).1
    have d12_ := (blk_at b8 12 (by simp)).1
    simp only [List.getElem_toArray, List.getElem_cons_zero, List.getElem_cons_succ] at d0_ d1_ d2_ d3_ d4_ d5_ d6_ d7_ d8_ d9_ d10_ d11_ d12_
    clear c0_ r0_ q0_ c1_ r1_ q1_ c2_ r2_ q2_ c3_ r3_ q3_ c4_ r4_ q4_ c5_ r5_ q5_ c6_ r6_ q6_ c7_ r7_ q7_ c8_ r8_ q8_ c9_ r9_ q9_ c10_ r10_ q10_ c11_ r11_ q11_ c12_ r12_ q12_ b8 Z7 B7 hz
    refine wp_ret ?_
    refine bodyPost_ret (v := .tuple #[.agg #[.int .i64 (c0 / 64), .int .i64 (c0 / 8 % 8), .int .i64 (c0 % 8), .int .i64 x3, .int .i64 x4, .int .i64 x5, .int .u32 y6, .int .u32 y7, .int .u32 y8, .int .u64 y9, .int .u64 y10, .int .u64 y11, .int .u64 y12], .string T48]) ?_ rfl ⟨rfl, B8⟩
    simp [results, Tryd.results24, go_sem, *]
end Go.Proofs.YthfgjhffcbehbaaDoor.W
