/- Layer 5's own code, walked: a header's bytes. -/
import Derived.Test.YthfgjhffcbehbaaDoorRows
import Derived.Test.YthfgjhffcbehbaaDoorWdefs
import Derived.Test.YthfgjhffcbehbaaDoorHdB
import Derived.Test.YthfgjhffcbehbaaDoorHdI
import Derived.Test.YthfgjhffcbehbaaDoorHeA
import Derived.Test.YthfgjhffcbehbaaDoorHeC
import Derived.WalkKit
import Derived.WalkSpells
import Derived.WalkLawsBesides
import Derived.Lib.Hide
import Derived.Lib.Zigzag
import Derived.Handy
import Derived.OwnWalk

namespace Go.Proofs.YthfgjhffcbehbaaDoor.W
open Go.RowKit
set_option linter.unusedVariables false
set_option linter.unusedSimpArgs false
theorem HdIn.keptB {h : Hd} {b B : Nat} {w w' : World} (H : HdIn h b w) (hB : Below B w w') (hb : b < B) : HdIn h b w' := by
  have c := fun o => hB.cell (p := ⟨b, o, none⟩) hb
  exact ⟨Nat.lt_of_lt_of_le H.lt hB.size, by rw [c, H.c0], by rw [c, H.c1], by rw [c, H.c2], by rw [c, H.c3], by rw [c, H.c4], by rw [c, H.c5], by rw [c, H.c6], by rw [c, H.c7], by rw [c, H.c8], by rw [c, H.c9], by rw [c, H.c10], by rw [c, H.c11], by rw [c, H.c12]⟩
theorem make48 : ∃ Z : Array Value, Z.size = 48 ∧ ∀ w : World, (Instr.makeSlice 37 (.int .i64 0) (.int .i64 48)).run Tryd.prog w = .ok (.slice (some ⟨w.heap.size, 0, none⟩) 0 48) (w.alloc (.cells Z 5)) :=
  ⟨Array.replicate 48 (.int .u8 0), by simp, fun _ => by kernel_rfl⟩
theorem text_of {w : World} {B : Nat} {v : Value} {l : List UInt8} (h : w.ownsRow B 5 1 v l.length (bc l)) : (convert 37 9 v).run Tryd.prog w = .ok (.string (bs l)) w := by
  rcases h.2 with ⟨rfl, hn⟩ | ⟨g, cap, cur, rfl, hb, hg, h1, h2, h3, h4⟩
  · have hl : l = [] := List.eq_nil_of_length_eq_zero hn
    subst hl
    exact run_convert_bytes_nil w _ _ Tryd.underlying37 Tryd.underlying5 _ _ _ Tryd.underlying9
  · refine run_convert_bytes_back w _ _ _ _ cap l Tryd.underlying37 Tryd.underlying5 Tryd.underlying9 ?_
    intro j hj
    exact h.cells (g := g) rfl j _ (by simp [bc, hj])
set_option maxHeartbeats 12800000 in
theorem henc_any (h : Hd) (t : h.Typed) (w : World) (L : Laid w) :
    Calls Tryd.prog 8 #[h.val] w fun e w' => e = .returned (.tuple #[.string (bs h.encS), .int .i64 h.encE]) ∧ Below w.heap.size w w' := by
  have c := fun w (L : Laid w) => hmay_any h w L
  obtain ⟨x, hx⟩ : ∃ x, h.may = x := ⟨_, rfl⟩
  have hs : h.encS = if x then h.enc else [] := by unfold Hd.encS; rw [hx]
  have he : h.encE = if x then 0 else 1 := by unfold Hd.encE; rw [hx]
  rw [hs, he]
  clear hs he
  rw [hx] at c
  have L1 : Laid (w.alloc (.cells #[.int .i64 h.leap, .int .i64 h.ver, .int .i64 h.mode, .int .i64 h.str, .int .i64 h.poll, .int .i64 h.prec, .int .u32 h.rdel, .int .u32 h.rdis, .int .u32 h.ref, .int .u64 h.reft, .int .u64 h.org, .int .u64 h.rcv, .int .u64 h.tx] 25)) := L.kept (Below.alloc (Below.refl _ _) (Nat.le_refl _) _)
  cases x
  · clear hx
    unfold Hd.val at *
    go_enter Tryd.func8, Tryd.ntmps8
    go_wp2_with fail
    (with_reducible refine (c _ L1).mono ?_)
    rintro e w1 ⟨rfl, hB⟩
    go_wp2_with fail
    go_ret2
    exact ⟨rfl, below_in hB⟩
  · have f := Hd.may_fit hx
    obtain ⟨f1, f2, f3, f4, f5, f6⟩ := f
    obtain ⟨t1, t2, t3, t4, t5, t6, t7, t8, t9, t10, t11, t12, t13⟩ := t
    have hE : h.enc = [] ++ be 1 (64 * h.leap + 8 * h.ver + h.mode) ++ be 1 h.str ++ be 1 (h.poll % 256) ++ be 1 (h.prec % 256) ++ be 4 h.rdel ++ be 4 h.rdis ++ be 4 h.ref ++ be 8 h.reft ++ be 8 h.org ++ be 8 h.rcv ++ be 8 h.tx := rfl
    have HE := Lib.hid hE
    clear hE hx
    have w1e : IntKind.u8.wrap (64 * h.leap + 8 * h.ver + h.mode) = 64 * h.leap + 8 * h.ver + h.mode := by rw [IntKind.wrap_u8]; omega
    obtain ⟨Z, hZ, hmk⟩ := make48
    have ix_i640 : ∀ (a b c d : Int) w, (Instr.index 40 (.agg #[.int .i64 a, .int .i64 b, .int .i64 c, .int .i64 d]) (.int .i64 0)).run Tryd.prog w = .ok (.int .i64 a) w := fun _ _ _ _ _ => by kernel_rfl
    have ix_i641 : ∀ (a b c d : Int) w, (Instr.index 40 (.agg #[.int .i64 a, .int .i64 b, .int .i64 c, .int .i64 d]) (.int .i64 1)).run Tryd.prog w = .ok (.int .i64 b) w := fun _ _ _ _ _ => by kernel_rfl
    have ix_i642 : ∀ (a b c d : Int) w, (Instr.index 40 (.agg #[.int .i64 a, .int .i64 b, .int .i64 c, .int .i64 d]) (.int .i64 2)).run Tryd.prog w = .ok (.int .i64 c) w := fun _ _ _ _ _ => by kernel_rfl
    have ix_i643 : ∀ (a b c d : Int) w, (Instr.index 40 (.agg #[.int .i64 a, .int .i64 b, .int .i64 c, .int .i64 d]) (.int .i64 3)).run Tryd.prog w = .ok (.int .i64 d) w := fun _ _ _ _ _ => by kernel_rfl
    have ix_u320 : ∀ (a b c : Int) w, (Instr.index 42 (.agg #[.int .u32 a, .int .u32 b, .int .u32 c]) (.int .i64 0)).run Tryd.prog w = .ok (.int .u32 a) w := fun _ _ _ _ => by kernel_rfl
    have ix_u321 : ∀ (a b c : Int) w, (Instr.index 42 (.agg #[.int .u32 a, .int .u32 b, .int .u32 c]) (.int .i64 1)).run Tryd.prog w = .ok (.int .u32 b) w := fun _ _ _ _ => by kernel_rfl
    have ix_u322 : ∀ (a b c : Int) w, (Instr.index 42 (.agg #[.int .u32 a, .int .u32 b, .int .u32 c]) (.int .i64 2)).run Tryd.prog w = .ok (.int .u32 c) w := fun _ _ _ _ => by kernel_rfl
    have ix_u640 : ∀ (a b c d : Int) w, (Instr.index 44 (.agg #[.int .u64 a, .int .u64 b, .int .u64 c, .int .u64 d]) (.int .i64 0)).run Tryd.prog w = .ok (.int .u64 a) w := fun _ _ _ _ _ => by kernel_rfl
    have ix_u641 : ∀ (a b c d : Int) w, (Instr.index 44 (.agg #[.int .u64 a, .int .u64 b, .int .u64 c, .int .u64 d]) (.int .i64 1)).run Tryd.prog w = .ok (.int .u64 b) w := fun _ _ _ _ _ => by kernel_rfl
    have ix_u642 : ∀ (a b c d : Int) w, (Instr.index 44 (.agg #[.int .u64 a, .int .u64 b, .int .u64 c, .int .u64 d]) (.int .i64 2)).run Tryd.prog w = .ok (.int .u64 c) w := fun _ _ _ _ _ => by kernel_rfl
    have ix_u643 : ∀ (a b c d : Int) w, (Instr.index 44 (.agg #[.int .u64 a, .int .u64 b, .int .u64 c, .int .u64 d]) (.int .i64 3)).run Tryd.prog w = .ok (.int .u64 d) w := fun _ _ _ _ _ => by kernel_rfl
    unfold Hd.val at *
    go_enter Tryd.func8, Tryd.ntmps8
    go_wp2_with fail
    (with_reducible refine (c _ L1).mono ?_)
    rintro e w1 ⟨rfl, hB⟩
    have H := (HdIn.made h w 25).kept hB
    replace hB := below_in hB
    have hz := hB.size
    have hlt := H.lt
    obtain ⟨B, hBe⟩ : ∃ B, w1.heap.size = B := ⟨_, rfl⟩
    have own0 : (w1.alloc (.cells Z 5)).ownsRow B 5 1 (.slice (some ⟨B, 0, none⟩) 0 48) ([] : List UInt8).length (bc []) := by
      rw [← hBe]
      exact World.ownsRow_made _ _ _ (Nat.le_refl _) (by unfold maxLen; omega) (by rw [hZ])
    have bel0 : Below w.heap.size w (w1.alloc (.cells Z 5)) := Below.alloc hB hz _
    have H0 : HdIn h w.heap.size (w1.alloc (.cells Z 5)) := H.kept (Below.alloc (Below.refl _ _) (Nat.le_refl _) _)
    have bz0 : B ≤ (w1.alloc (.cells Z 5)).heap.size := by simp; omega
    have hlB : w.heap.size < B := by omega
    have ⟨klt, k0, k1, k2, k3, k4, k5, k6, k7, k8, k9, k10, k11, k12⟩ := H0
    clear H hB hz L L1 c
    go_wp2_with fail
    refine wp_loop_rounds 5 ?_
    rw [rounds_succ]
    go_wp2_with fail
    (with_reducible refine (put_u8 (64 * h.leap + 8 * h.ver + h.mode) (by omega) (by omega) B _ (([] : List UInt8)) (by simp [be_length]) _ own0 bz0).mono ?_)
    rintro e x1 ⟨v1, rfl, own1, b1⟩
    have H1 := H0.keptB b1 hlB
    have bel1 := bel0.trans (b1.mono (Nat.le_of_lt hlB))
    have bz1 := Nat.le_trans bz0 b1.size
    clear H0 own0 bel0 bz0 b1 klt k0 k1 k2 k3 k4 k5 k6 k7 k8 k9 k10 k11 k12
    have ⟨klt, k0, k1, k2, k3, k4, k5, k6, k7, k8, k9, k10, k11, k12⟩ := H1
    go_wp2_with fail
    rw [rounds_succ]
    go_wp2_with fail
    (with_reducible refine (put_u8 (h.str) (by omega) (by omega) B _ (([] : List UInt8) ++ be 1 (64 * h.leap + 8 * h.ver + h.mode)) (by simp [be_length]) _ own1 bz1).mono ?_)
    rintro e x2 ⟨v2, rfl, own2, b2⟩
    have H2 := H1.keptB b2 hlB
    have bel2 := bel1.trans (b2.mono (Nat.le_of_lt hlB))
    have bz2 := Nat.le_trans bz1 b2.size
    clear H1 own1 bel1 bz1 b2 klt k0 k1 k2 k3 k4 k5 k6 k7 k8 k9 k10 k11 k12
    have ⟨klt, k0, k1, k2, k3, k4, k5, k6, k7, k8, k9, k10, k11, k12⟩ := H2
    go_wp2_with fail
    rw [rounds_succ]
    go_wp2_with fail
    (with_reducible refine (put_u8 (h.poll % 256) (by omega) (by omega) B _ (([] : List UInt8) ++ be 1 (64 * h.leap + 8 * h.ver + h.mode) ++ be 1 (h.str)) (by simp [be_length]) _ own2 bz2).mono ?_)
    rintro e x3 ⟨v3, rfl, own3, b3⟩
    have H3 := H2.keptB b3 hlB
    have bel3 := bel2.trans (b3.mono (Nat.le_of_lt hlB))
    have bz3 := Nat.le_trans bz2 b3.size
    clear H2 own2 bel2 bz2 b3 klt k0 k1 k2 k3 k4 k5 k6 k7 k8 k9 k10 k11 k12
    have ⟨klt, k0, k1, k2, k3, k4, k5, k6, k7, k8, k9, k10, k11, k12⟩ := H3
    go_wp2_with fail
    rw [rounds_succ]
    go_wp2_with fail
    (with_reducible refine (put_u8 (h.prec % 256) (by omega) (by omega) B _ (([] : List UInt8) ++ be 1 (64 * h.leap + 8 * h.ver + h.mode) ++ be 1 (h.str) ++ be 1 (h.poll % 256)) (by simp [be_length]) _ own3 bz3).mono ?_)
    rintro e x4 ⟨v4, rfl, own4, b4⟩
    have H4 := H3.keptB b4 hlB
    have bel4 := bel3.trans (b4.mono (Nat.le_of_lt hlB))
    have bz4 := Nat.le_trans bz3 b4.size
    clear H3 own3 bel3 bz3 b4 klt k0 k1 k2 k3 k4 k5 k6 k7 k8 k9 k10 k11 k12
    have ⟨klt, k0, k1, k2, k3, k4, k5, k6, k7, k8, k9, k10, k11, k12⟩ := H4
    go_wp2_with fail
    rw [rounds_succ]
    go_wp2_with fail
    refine wp_loop_rounds 4 ?_
    rw [rounds_succ]
    go_wp2_with fail
    (with_reducible refine (put_u32 (h.rdel) (by omega) (by omega) B _ (([] : List UInt8) ++ be 1 (64 * h.leap + 8 * h.ver + h.mode) ++ be 1 (h.str) ++ be 1 (h.poll % 256) ++ be 1 (h.prec % 256)) (by simp [be_length]) _ own4 bz4).mono ?_)
    rintro e x5 ⟨v5, rfl, own5, b5⟩
    have H5 := H4.keptB b5 hlB
    have bel5 := bel4.trans (b5.mono (Nat.le_of_lt hlB))
    have bz5 := Nat.le_trans bz4 b5.size
    clear H4 own4 bel4 bz4 b5 klt k0 k1 k2 k3 k4 k5 k6 k7 k8 k9 k10 k11 k12
    have ⟨klt, k0, k1, k2, k3, k4, k5, k6, k7, k8, k9, k10, k11, k12⟩ := H5
    go_wp2_with fail
    rw [rounds_succ]
    go_wp2_with fail
    (with_reducible refine (put_u32 (h.rdis) (by omega) (by omega) B _ (([] : List UInt8) ++ be 1 (64 * h.leap + 8 * h.ver + h.mode) ++ be 1 (h.str) ++ be 1 (h.poll % 256) ++ be 1 (h.prec % 256) ++ be 4 (h.rdel)) (by simp [be_length]) _ own5 bz5).mono ?_)
    rintro e x6 ⟨v6, rfl, own6, b6⟩
    have H6 := H5.keptB b6 hlB
    have bel6 := bel5.trans (b6.mono (Nat.le_of_lt hlB))
    have bz6 := Nat.le_trans bz5 b6.size
    clear H5 own5 bel5 bz5 b6 klt k0 k1 k2 k3 k4 k5 k6 k7 k8 k9 k10 k11 k12
    have ⟨klt, k0, k1, k2, k3, k4, k5, k6, k7, k8, k9, k10, k11, k12⟩ := H6
    go_wp2_with fail
    rw [rounds_succ]
    go_wp2_with fail
    (with_reducible refine (put_u32 (h.ref) (by omega) (by omega) B _ (([] : List UInt8) ++ be 1 (64 * h.leap + 8 * h.ver + h.mode) ++ be 1 (h.str) ++ be 1 (h.poll % 256) ++ be 1 (h.prec % 256) ++ be 4 (h.rdel) ++ be 4 (h.rdis)) (by simp [be_length]) _ own6 bz6).mono ?_)
    rintro e x7 ⟨v7, rfl, own7, b7⟩
    have H7 := H6.keptB b7 hlB
    have bel7 := bel6.trans (b7.mono (Nat.le_of_lt hlB))
    have bz7 := Nat.le_trans bz6 b7.size
    clear H6 own6 bel6 bz6 b7 klt k0 k1 k2 k3 k4 k5 k6 k7 k8 k9 k10 k11 k12
    have ⟨klt, k0, k1, k2, k3, k4, k5, k6, k7, k8, k9, k10, k11, k12⟩ := H7
    go_wp2_with fail
    rw [rounds_succ]
    go_wp2_with fail
    refine wp_loop_rounds 5 ?_
    rw [rounds_succ]
    go_wp2_with fail
    (with_reducible refine (put_u64 (h.reft) (by omega) (by omega) B _ (([] : List UInt8) ++ be 1 (64 * h.leap + 8 * h.ver + h.mode) ++ be 1 (h.str) ++ be 1 (h.poll % 256) ++ be 1 (h.prec % 256) ++ be 4 (h.rdel) ++ be 4 (h.rdis) ++ be 4 (h.ref)) (by simp [be_length]) _ own7 bz7).mono ?_)
    rintro e x8 ⟨v8, rfl, own8, b8⟩
    have H8 := H7.keptB b8 hlB
    have bel8 := bel7.trans (b8.mono (Nat.le_of_lt hlB))
    have bz8 := Nat.le_trans bz7 b8.size
    clear H7 own7 bel7 bz7 b8 klt k0 k1 k2 k3 k4 k5 k6 k7 k8 k9 k10 k11 k12
    have ⟨klt, k0, k1, k2, k3, k4, k5, k6, k7, k8, k9, k10, k11, k12⟩ := H8
    go_wp2_with fail
    rw [rounds_succ]
    go_wp2_with fail
    (with_reducible refine (put_u64 (h.org) (by omega) (by omega) B _ (([] : List UInt8) ++ be 1 (64 * h.leap + 8 * h.ver + h.mode) ++ be 1 (h.str) ++ be 1 (h.poll % 256) ++ be 1 (h.prec % 256) ++ be 4 (h.rdel) ++ be 4 (h.rdis) ++ be 4 (h.ref) ++ be 8 (h.reft)) (by simp [be_length]) _ own8 bz8).mono ?_)
    rintro e x9 ⟨v9, rfl, own9, b9⟩
    have H9 := H8.keptB b9 hlB
    have bel9 := bel8.trans (b9.mono (Nat.le_of_lt hlB))
    have bz9 := Nat.le_trans bz8 b9.size
    clear H8 own8 bel8 bz8 b9 klt k0 k1 k2 k3 k4 k5 k6 k7 k8 k9 k10 k11 k12
    have ⟨klt, k0, k1, k2, k3, k4, k5, k6, k7, k8, k9, k10, k11, k12⟩ := H9
    go_wp2_with fail
    rw [rounds_succ]
    go_wp2_with fail
    (with_reducible refine (put_u64 (h.rcv) (by omega) (by omega) B _ (([] : List UInt8) ++ be 1 (64 * h.leap + 8 * h.ver + h.mode) ++ be 1 (h.str) ++ be 1 (h.poll % 256) ++ be 1 (h.prec % 256) ++ be 4 (h.rdel) ++ be 4 (h.rdis) ++ be 4 (h.ref) ++ be 8 (h.reft) ++ be 8 (h.org)) (by simp [be_length]) _ own9 bz9).mono ?_)
    rintro e x10 ⟨v10, rfl, own10, b10⟩
    have H10 := H9.keptB b10 hlB
    have bel10 := bel9.trans (b10.mono (Nat.le_of_lt hlB))
    have bz10 := Nat.le_trans bz9 b10.size
    clear H9 own9 bel9 bz9 b10 klt k0 k1 k2 k3 k4 k5 k6 k7 k8 k9 k10 k11 k12
    have ⟨klt, k0, k1, k2, k3, k4, k5, k6, k7, k8, k9, k10, k11, k12⟩ := H10
    go_wp2_with fail
    rw [rounds_succ]
    go_wp2_with fail
    (with_reducible refine (put_u64 (h.tx) (by omega) (by omega) B _ (([] : List UInt8) ++ be 1 (64 * h.leap + 8 * h.ver + h.mode) ++ be 1 (h.str) ++ be 1 (h.poll % 256) ++ be 1 (h.prec % 256) ++ be 4 (h.rdel) ++ be 4 (h.rdis) ++ be 4 (h.ref) ++ be 8 (h.reft) ++ be 8 (h.org) ++ be 8 (h.rcv)) (by simp [be_length]) _ own10 bz10).mono ?_)
    rintro e x11 ⟨v11, rfl, own11, b11⟩
    have H11 := H10.keptB b11 hlB
    have bel11 := bel10.trans (b11.mono (Nat.le_of_lt hlB))
    have bz11 := Nat.le_trans bz10 b11.size
    clear H10 own10 bel10 bz10 b11 klt k0 k1 k2 k3 k4 k5 k6 k7 k8 k9 k10 k11 k12
    have ⟨klt, k0, k1, k2, k3, k4, k5, k6, k7, k8, k9, k10, k11, k12⟩ := H11
    have ht := text_of own11
    go_wp2_with fail
    rw [rounds_succ]
    go_wp2_with fail
    go_ret2
    exact ⟨by rw [HE.out]; rfl, bel11⟩
end Go.Proofs.YthfgjhffcbehbaaDoor.W
