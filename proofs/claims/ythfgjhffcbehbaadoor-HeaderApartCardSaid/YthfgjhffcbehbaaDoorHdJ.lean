/- Headers that are compared; a byte that is turned. -/
import Derived.Test.YthfgjhffcbehbaaDoorHdI
import Derived.Test.YthfgjhffcbehbaaDoorHdC
import Derived.Lib.Zigzag
import Derived.Below
namespace Go.Proofs.YthfgjhffcbehbaaDoor.W
open Go.RowKit
set_option linter.unusedVariables false
set_option linter.unusedSimpArgs false
theorem hdr_eq (h k : Hd) (b : Bool) (hb : b = true ↔ h = k) (w : World) : (binOp .eql 25 h.val k.val).run Tryd.prog w = .ok (.bool b) w := by
  by_cases e : h = k
  · obtain rfl : b = true := hb.2 e
    subst e
    unfold Hd.val
    simp [go_sem]
  · have hf : b = false := by
      cases b
      · rfl
      · exact absurd (hb.1 rfl) e
    subst hf
    cases h; cases k
    unfold Hd.val
    simp [go_sem]
    intros
    intro _
    apply e
    simp only [*]
theorem hdr_ne (h k : Hd) (e : h ≠ k) (w : World) : (binOp .neq 25 h.val k.val).run Tryd.prog w = .ok (.bool true) w := by
  cases h; cases k
  unfold Hd.val
  simp [go_sem]
  intros
  intro _
  apply e
  simp only [*]
theorem xor8 (c b : Int) (c0 : 0 ≤ c) (c1 : c < 256) (b0 : 0 < b) (b1 : b < 256) : 0 ≤ bits .xor .u8 c b ∧ bits .xor .u8 c b < 256 ∧ bits .xor .u8 c b ≠ c := by
  obtain ⟨n, rfl⟩ := Int.eq_ofNat_of_zero_le c0
  obtain ⟨m, rfl⟩ := Int.eq_ofNat_of_zero_le (show 0 ≤ b by omega)
  have e : bits .xor .u8 (n : Int) (m : Int) = ((n ^^^ m : Nat) : Int) := by
    have hx : n ^^^ m < 2 ^ 8 := Nat.xor_lt_two_pow (by omega) (by omega)
    have h1 : (BitVec.ofInt 8 (n : Int)).toNat = n := by
      rw [BitVec.ofInt_natCast, BitVec.toNat_ofNat]; exact Nat.mod_eq_of_lt (by omega)
    have h2 : (BitVec.ofInt 8 (m : Int)).toNat = m := by
      rw [BitVec.ofInt_natCast, BitVec.toNat_ofNat]; exact Nat.mod_eq_of_lt (by omega)
    show IntKind.u8.wrap ((BitVec.ofInt 8 (n : Int) ^^^ BitVec.ofInt 8 (m : Int)).toNat : Int) = _
    rw [BitVec.toNat_xor, h1, h2, IntKind.wrap_u8]
    omega
  have h1 : n ^^^ m < 2 ^ 8 := Nat.xor_lt_two_pow (by omega) (by omega)
  rw [e]
  refine ⟨by omega, by omega, ?_⟩
  intro h
  have h2 : n ^^^ m = n := by exact_mod_cast h
  have h3 : m = 0 := by
    have := congrArg (n ^^^ ·) h2
    simp only [← Nat.xor_assoc, Nat.xor_self, Nat.zero_xor] at this
    exact this
  omega
theorem HdIn.made2 (k : Hd) (w : World) (o : Obj) (t : TypeId) : HdIn k (w.heap.size + 1) ((w.alloc o).alloc (.cells #[.int .i64 k.leap, .int .i64 k.ver, .int .i64 k.mode, .int .i64 k.str, .int .i64 k.poll, .int .i64 k.prec, .int .u32 k.rdel, .int .u32 k.rdis, .int .u32 k.ref, .int .u64 k.reft, .int .u64 k.org, .int .u64 k.rcv, .int .u64 k.tx] t)) := by
  have h := HdIn.made k (w.alloc o) t
  rw [show (w.alloc o).heap.size = w.heap.size + 1 by simp] at h
  exact h
theorem HdIn.filled {h : Hd} {b : Nat} {w : World} {t : TypeId} (z : w.heap[b]? = some (.cells #[.int .i64 h.leap, .int .i64 h.ver, .int .i64 h.mode, .int .i64 h.str, .int .i64 h.poll, .int .i64 h.prec, .int .u32 h.rdel, .int .u32 h.rdis, .int .u32 h.ref, .int .u64 h.reft, .int .u64 h.org, .int .u64 h.rcv, .int .u64 h.tx] t (0, 0))) : HdIn h b w := by
  refine ⟨(Array.getElem?_eq_some_iff.1 z).1, ?_, ?_, ?_, ?_, ?_, ?_, ?_, ?_, ?_, ?_, ?_, ?_, ?_⟩
  all_goals simp [World.cell?, z]
theorem one_byte_in (x : Int) (w : World) (b : Nat) (hc : w.cell? ⟨b, 0, none⟩ = some (.int .u8 x)) : (convert 37 9 (.slice (some ⟨b, 0, none⟩) 1 1)).run Tryd.prog w = .ok (.string (bs [b8 x])) w := by
  rw [run_convert_bytes_string _ _ _ 5 _ _ _ Tryd.underlying37 Tryd.underlying5 Tryd.underlying9]
  have hl := run_loadCells_list (P := Tryd.prog) w ⟨b, 0, none⟩ [.int .u8 x] (fun j v hj => by
    match j, hj with
    | 0, hj => simp at hj; subst hj; exact hc)
  exact run_bytesToString _ _ 1 1 [x] hl
theorem below_fill (w : World) (B b : Nat) (h : B ≤ b) (v0 v1 v2 v3 v4 v5 v6 v7 v8 v9 v10 v11 v12 : Value) : Below B w (((((((((((((w.setCell ⟨b, 0, none⟩ v0).setCell ⟨b, 1, none⟩ v1).setCell ⟨b, 2, none⟩ v2).setCell ⟨b, 3, none⟩ v3).setCell ⟨b, 4, none⟩ v4).setCell ⟨b, 5, none⟩ v5).setCell ⟨b, 6, none⟩ v6).setCell ⟨b, 7, none⟩ v7).setCell ⟨b, 8, none⟩ v8).setCell ⟨b, 9, none⟩ v9).setCell ⟨b, 10, none⟩ v10).setCell ⟨b, 11, none⟩ v11).setCell ⟨b, 12, none⟩ v12) := Below.setCell (Below.setCell (Below.setCell (Below.setCell (Below.setCell (Below.setCell (Below.setCell (Below.setCell (Below.setCell (Below.setCell (Below.setCell (Below.setCell (Below.setCell (Below.refl _ _) h _) h _) h _) h _) h _) h _) h _) h _) h _) h _) h _) h _) h _
theorem below_one (w : World) (o : Obj) : Below w.heap.size w (w.alloc o) := Below.alloc (Below.refl _ _) (Nat.le_refl _) _
end Go.Proofs.YthfgjhffcbehbaaDoor.W
