/- HeaderApart: for every two headers and every two bytes, headers that may be have the same bytes only if they are the same; a byte that is turned makes another header, or none. Condition: the package variable header.bounds holds what the text of the program lays in it (the card ties it). -/
import Derived.Test.YthfgjhffcbehbaaDoorHdY
import Derived.Test.YthfgjhffcbehbaaDoorHdL
import Derived.Test.YthfgjhffcbehbaaDoorHdJ
import Derived.WalkKit
import Derived.WalkSpells
import Derived.WalkLawsBesides
import Derived.Lib.Hide
import Derived.Handy
import Derived.ProofKit
import Derived.OpenShut
import Derived.ShutString
import Derived.ChangeOld
import Derived.Below
import Derived.Lib.QuietBelow
import Derived.BigQuiet
import Derived.Deep.DeepCutAuto
import Derived.Deep.RegionHeld3
namespace Go.Proofs.YthfgjhffcbehbaaDoor.HeaderApart
open Go.Proofs.YthfgjhffcbehbaaDoor.W
open Go.ChangeShapes Go.WideShapes Go.ChangeAt Go.RowKit
open Go.ChangeMaps (open_string shut_string)
set_option linter.unusedVariables false
theorem own : ownKnob Tryd.prog.godebug = none := by kernel_rfl
theorem laidOut : laidOutB Tryd.prog = true := by kernel_rfl
open Go.Sort
set_option linter.unusedSimpArgs false
/-- A text with the byte at j put there. -/
def turned (l : List UInt8) (j : Nat) (x : UInt8) : List UInt8 := cut l 0 j ++ (x :: l.drop (j + 1))
theorem turned_length (l : List UInt8) (j : Nat) (x : UInt8) (h : j < l.length) : (turned l j x).length = l.length := by
  unfold turned
  simp only [List.length_append, cut_len, List.length_drop, List.length_cons, List.length_nil]
  omega
theorem turned_at (l : List UInt8) (j : Nat) (x : UInt8) (h : j < l.length) : byteAt (turned l j x) j = (x.toNat : Int) := by
  have hc : (cut l 0 j).length = j := by rw [cut_len]; omega
  unfold turned byteAt
  rw [List.getD_eq_getElem?_getD, List.getElem?_append_right (by omega), hc]
  simp
theorem turned_first (l : List UInt8) (j : Nat) (x : UInt8) (h : j < l.length) (h0 : 0 < j) : byteAt (turned l j x) 0 = byteAt l 0 := by
  have hc : (cut l 0 j).length = j := by rw [cut_len]; omega
  unfold turned byteAt
  rw [List.getD_eq_getElem?_getD, List.getElem?_append_left (by omega), List.getD_eq_getElem?_getD]
  unfold cut
  simp [h0]
theorem apart_math (h : Hd) (t : h.Typed) (f : h.Fit) (j : Nat) (hj : j < 48) (x : UInt8) (hx : (x.toNat : Int) ≠ byteAt h.enc j) :
    (decE (turned h.enc j x) = 0 ∧ decV (turned h.enc j x) ≠ h) ∨ (decE (turned h.enc j x) = 51 ∧ j = 0 ∧ decV (turned h.enc j x) = Hd.zero) := by
  have hl := h.enc_length
  have hl' := turned_length h.enc j x (by omega)
  by_cases e : decE (turned h.enc j x) = 0
  · left
    refine ⟨e, ?_⟩
    intro hc
    have hv : decV (turned h.enc j x) = decH (turned h.enc j x) := by unfold decV; rw [if_pos e]
    rw [hv] at hc
    have h2 := enc_dec (turned h.enc j x) (by omega)
    rw [hc, List.take_of_length_le (by omega)] at h2
    have h3 := turned_at h.enc j x (by omega)
    rw [← h2] at h3
    exact hx h3.symm
  · right
    have hz : decV (turned h.enc j x) = Hd.zero := by unfold decV; rw [if_neg e]
    have hnv : (decH (turned h.enc j x)).ver < 1 ∨ 4 < (decH (turned h.enc j x)).ver := by
      apply Classical.byContradiction
      intro hn
      apply e
      unfold decE
      rw [if_neg (by omega)]
      exact if_neg hn
    refine ⟨?_, ?_, hz⟩
    · unfold decE
      rw [if_neg (by omega)]
      exact if_pos hnv
    · apply Classical.byContradiction
      intro hj0
      have hb := turned_first h.enc j x (by omega) (by omega)
      have hv : (decH (turned h.enc j x)).ver = (decH h.enc).ver := by
        show byteAt (turned h.enc j x) 0 / 8 % 8 = byteAt h.enc 0 / 8 % 8
        rw [hb]
      have hd := dec_enc h t f []
      rw [List.append_nil] at hd
      rw [hv, hd] at hnv
      have := f.ver
      omega
set_option maxHeartbeats 25600000 in
set_option maxRecDepth 20000 in
theorem walk (a0 a1 : Hd) (a2 a3 : Int) (w : World) (t : a0.Typed) (t1 : a1.Typed) (w2 : (Lit.int .u8 a2).wf = true) (w3 : (Lit.int .u8 a3).wf = true) (HL : Laid w) :
    Calls Tryd.prog 6 #[a0.val, a1.val, .int .u8 a2, .int .u8 a3] w fun e w' => e = .returned (.bool true) ∧ Below w.heap.size w w' := by
  have q2 := bounds_u8 w2
  have q3 := bounds_u8 w3
  clear w2 w3
  have cz := fun w (L : Laid w) => hshown_any w L
  have c1 := fun w (L : Laid w) => henc_any a0 t w L
  have c2 := fun w (L : Laid w) => henc_any a1 t1 w L
  have c3 := rmay_any a0
  by_cases hm : a0.may = true
  · obtain ⟨e1, e2⟩ := enc_yes hm
    rw [e1, e2] at c1
    rw [hm] at c3
    have f := Hd.may_fit hm
    have hL := a0.enc_length
    have hcv := one_byte
    obtain ⟨b, hb⟩ : ∃ b : Bool, b = true ↔ a0 = a1 := ⟨@decide (a0 = a1) (Classical.propDecidable _), by simp⟩
    have heq := hdr_eq a0 a1 b hb
    have hst : a1.may = true → (a0.enc == a1.enc) = b := by
      intro hm1
      by_cases e : a0 = a1
      · rw [hb.2 e, e]; simp
      · have hbf : b = false := by
          cases b
          · rfl
          · exact absurd (hb.1 rfl) e
        rw [hbf]
        apply beq_eq_false_iff_ne.2
        intro he
        apply e
        have d0 := dec_enc a0 t f []
        have d1 := dec_enc a1 t1 (Hd.may_fit hm1) []
        rw [← d0, ← d1, he]
    have hx : a1.may = true ∨ a1.may = false := by cases a1.may <;> simp
    by_cases hk : a3 = 0
    · subst hk
      rcases hx with hm1 | hm1
      · obtain ⟨g1, g2⟩ := enc_yes hm1
        have hst := hst hm1
        rw [g1, g2] at c2
        clear e1 e2 g1 g2 hm hm1 t t1 hb f
        generalize a0.enc = L at *
        generalize a1.enc = M at *
        unfold Hd.val at *
        go_enter Tryd.func6, Tryd.ntmps6
        go_wp2_with fail
        (with_reducible refine (c1 _ (by first | (with_reducible exact HL) | (with_reducible exact HL.alloc _) | (with_reducible exact (HL.alloc _).alloc _))).mono ?_)
        rintro e v1 ⟨rfl, hb⟩
        have H := ((HdIn.made a0 w 25).kept (below_one _ _)).kept hb
        have H2 := (HdIn.made2 a1 w _ 25).kept hb
        have hb' : Below w.heap.size w v1 := by first | (with_reducible exact hb) | (with_reducible exact below_in hb) | (with_reducible exact below_in (below_in hb))
        replace HL := HL.kept hb'
        have hB := hb'
        clear hb hb'
        have ⟨k0_lt, k0_0, k0_1, k0_2, k0_3, k0_4, k0_5, k0_6, k0_7, k0_8, k0_9, k0_10, k0_11, k0_12⟩ := H
        have ⟨k1_lt, k1_0, k1_1, k1_2, k1_3, k1_4, k1_5, k1_6, k1_7, k1_8, k1_9, k1_10, k1_11, k1_12⟩ := H2
        go_wp2_with fail
        (with_reducible refine (c2 _ (by first | (with_reducible exact HL) | (with_reducible exact HL.alloc _) | (with_reducible exact (HL.alloc _).alloc _))).mono ?_)
        rintro e v2 ⟨rfl, hb⟩
        have hb' : Below v1.heap.size v1 v2 := by first | (with_reducible exact hb) | (with_reducible exact below_in hb) | (with_reducible exact below_in (below_in hb))
        replace H := H.kept hb'
        replace H2 := H2.kept hb'
        replace HL := HL.kept hb'
        replace hB := hB.trans (hb'.mono hB.size)
        clear hb hb'
        clear k0_0 k0_1 k0_2 k0_3 k0_4 k0_5 k0_6 k0_7 k0_8 k0_9 k0_10 k0_11 k0_12 k0_lt k1_0 k1_1 k1_2 k1_3 k1_4 k1_5 k1_6 k1_7 k1_8 k1_9 k1_10 k1_11 k1_12 k1_lt
        have ⟨k0_lt, k0_0, k0_1, k0_2, k0_3, k0_4, k0_5, k0_6, k0_7, k0_8, k0_9, k0_10, k0_11, k0_12⟩ := H
        have ⟨k1_lt, k1_0, k1_1, k1_2, k1_3, k1_4, k1_5, k1_6, k1_7, k1_8, k1_9, k1_10, k1_11, k1_12⟩ := H2
        go_wp2_with fail
        (with_reducible refine (cz _ (by first | (with_reducible exact HL) | (with_reducible exact HL.alloc _) | (with_reducible exact (HL.alloc _).alloc _))).mono ?_)
        rintro e v3 ⟨rfl, hb⟩
        have hb' : Below v2.heap.size v2 v3 := by first | (with_reducible exact hb) | (with_reducible exact below_in hb) | (with_reducible exact below_in (below_in hb))
        replace H := H.kept hb'
        replace H2 := H2.kept hb'
        replace HL := HL.kept hb'
        replace hB := hB.trans (hb'.mono hB.size)
        clear hb hb'
        clear k0_0 k0_1 k0_2 k0_3 k0_4 k0_5 k0_6 k0_7 k0_8 k0_9 k0_10 k0_11 k0_12 k0_lt k1_0 k1_1 k1_2 k1_3 k1_4 k1_5 k1_6 k1_7 k1_8 k1_9 k1_10 k1_11 k1_12 k1_lt
        have ⟨k0_lt, k0_0, k0_1, k0_2, k0_3, k0_4, k0_5, k0_6, k0_7, k0_8, k0_9, k0_10, k0_11, k0_12⟩ := H
        have ⟨k1_lt, k1_0, k1_1, k1_2, k1_3, k1_4, k1_5, k1_6, k1_7, k1_8, k1_9, k1_10, k1_11, k1_12⟩ := H2
        go_wp2_with fail
        (with_reducible refine (c3 _).mono ?_)
        rintro e v4 ⟨rfl, hb⟩
        have hb' : Below v3.heap.size v3 v4 := by first | (with_reducible exact hb) | (with_reducible exact below_in hb) | (with_reducible exact below_in (below_in hb))
        replace H := H.kept hb'
        replace H2 := H2.kept hb'
        replace HL := HL.kept hb'
        replace hB := hB.trans (hb'.mono hB.size)
        clear hb hb'
        clear k0_0 k0_1 k0_2 k0_3 k0_4 k0_5 k0_6 k0_7 k0_8 k0_9 k0_10 k0_11 k0_12 k0_lt k1_0 k1_1 k1_2 k1_3 k1_4 k1_5 k1_6 k1_7 k1_8 k1_9 k1_10 k1_11 k1_12 k1_lt
        have ⟨k0_lt, k0_0, k0_1, k0_2, k0_3, k0_4, k0_5, k0_6, k0_7, k0_8, k0_9, k0_10, k0_11, k0_12⟩ := H
        have ⟨k1_lt, k1_0, k1_1, k1_2, k1_3, k1_4, k1_5, k1_6, k1_7, k1_8, k1_9, k1_10, k1_11, k1_12⟩ := H2
        go_wp2_with fail
        go_ret
        exact ⟨rfl, by have hz := hB.size; repeat' (first | (with_reducible exact Below.refl _ _) | (with_reducible assumption) | (with_reducible refine below_drewN ?_ _) | (with_reducible refine Below.drew ?_) | (with_reducible refine Below.setCell ?_ ?_ _) | (with_reducible refine Below.alloc ?_ ?_ _) | (simp; done) | (simp; omega) | omega)⟩
      · obtain ⟨g1, g2⟩ := enc_no hm1
        rw [g1, g2] at c2
        clear e1 e2 g1 g2 hm hm1 t t1 hb f hst
        generalize a0.enc = L at *
        unfold Hd.val at *
        go_enter Tryd.func6, Tryd.ntmps6
        go_wp2_with fail
        (with_reducible refine (c1 _ (by first | (with_reducible exact HL) | (with_reducible exact HL.alloc _) | (with_reducible exact (HL.alloc _).alloc _))).mono ?_)
        rintro e v1 ⟨rfl, hb⟩
        have H := ((HdIn.made a0 w 25).kept (below_one _ _)).kept hb
        have H2 := (HdIn.made2 a1 w _ 25).kept hb
        have hb' : Below w.heap.size w v1 := by first | (with_reducible exact hb) | (with_reducible exact below_in hb) | (with_reducible exact below_in (below_in hb))
        replace HL := HL.kept hb'
        have hB := hb'
        clear hb hb'
        have ⟨k0_lt, k0_0, k0_1, k0_2, k0_3, k0_4, k0_5, k0_6, k0_7, k0_8, k0_9, k0_10, k0_11, k0_12⟩ := H
        have ⟨k1_lt, k1_0, k1_1, k1_2, k1_3, k1_4, k1_5, k1_6, k1_7, k1_8, k1_9, k1_10, k1_11, k1_12⟩ := H2
        go_wp2_with fail
        (with_reducible refine (c2 _ (by first | (with_reducible exact HL) | (with_reducible exact HL.alloc _) | (with_reducible exact (HL.alloc _).alloc _))).mono ?_)
        rintro e v2 ⟨rfl, hb⟩
        have hb' : Below v1.heap.size v1 v2 := by first | (with_reducible exact hb) | (with_reducible exact below_in hb) | (with_reducible exact below_in (below_in hb))
        replace H := H.kept hb'
        replace H2 := H2.kept hb'
        replace HL := HL.kept hb'
        replace hB := hB.trans (hb'.mono hB.size)
        clear hb hb'
        clear k0_0 k0_1 k0_2 k0_3 k0_4 k0_5 k0_6 k0_7 k0_8 k0_9 k0_10 k0_11 k0_12 k0_lt k1_0 k1_1 k1_2 k1_3 k1_4 k1_5 k1_6 k1_7 k1_8 k1_9 k1_10 k1_11 k1_12 k1_lt
        have ⟨k0_lt, k0_0, k0_1, k0_2, k0_3, k0_4, k0_5, k0_6, k0_7, k0_8, k0_9, k0_10, k0_11, k0_12⟩ := H
        have ⟨k1_lt, k1_0, k1_1, k1_2, k1_3, k1_4, k1_5, k1_6, k1_7, k1_8, k1_9, k1_10, k1_11, k1_12⟩ := H2
        go_wp2_with fail
        (with_reducible refine (cz _ (by first | (with_reducible exact HL) | (with_reducible exact HL.alloc _) | (with_reducible exact (HL.alloc _).alloc _))).mono ?_)
        rintro e v3 ⟨rfl, hb⟩
        have hb' : Below v2.heap.size v2 v3 := by first | (with_reducible exact hb) | (with_reducible exact below_in hb) | (with_reducible exact below_in (below_in hb))
        replace H := H.kept hb'
        replace H2 := H2.kept hb'
        replace HL := HL.kept hb'
        replace hB := hB.trans (hb'.mono hB.size)
        clear hb hb'
        clear k0_0 k0_1 k0_2 k0_3 k0_4 k0_5 k0_6 k0_7 k0_8 k0_9 k0_10 k0_11 k0_12 k0_lt k1_0 k1_1 k1_2 k1_3 k1_4 k1_5 k1_6 k1_7 k1_8 k1_9 k1_10 k1_11 k1_12 k1_lt
        have ⟨k0_lt, k0_0, k0_1, k0_2, k0_3, k0_4, k0_5, k0_6, k0_7, k0_8, k0_9, k0_10, k0_11, k0_12⟩ := H
        have ⟨k1_lt, k1_0, k1_1, k1_2, k1_3, k1_4, k1_5, k1_6, k1_7, k1_8, k1_9, k1_10, k1_11, k1_12⟩ := H2
        go_wp2_with fail
        (with_reducible refine (c3 _).mono ?_)
        rintro e v4 ⟨rfl, hb⟩
        have hb' : Below v3.heap.size v3 v4 := by first | (with_reducible exact hb) | (with_reducible exact below_in hb) | (with_reducible exact below_in (below_in hb))
        replace H := H.kept hb'
        replace H2 := H2.kept hb'
        replace HL := HL.kept hb'
        replace hB := hB.trans (hb'.mono hB.size)
        clear hb hb'
        clear k0_0 k0_1 k0_2 k0_3 k0_4 k0_5 k0_6 k0_7 k0_8 k0_9 k0_10 k0_11 k0_12 k0_lt k1_0 k1_1 k1_2 k1_3 k1_4 k1_5 k1_6 k1_7 k1_8 k1_9 k1_10 k1_11 k1_12 k1_lt
        have ⟨k0_lt, k0_0, k0_1, k0_2, k0_3, k0_4, k0_5, k0_6, k0_7, k0_8, k0_9, k0_10, k0_11, k0_12⟩ := H
        have ⟨k1_lt, k1_0, k1_1, k1_2, k1_3, k1_4, k1_5, k1_6, k1_7, k1_8, k1_9, k1_10, k1_11, k1_12⟩ := H2
        go_wp2_with fail
        go_ret
        exact ⟨rfl, by have hz := hB.size; repeat' (first | (with_reducible exact Below.refl _ _) | (with_reducible assumption) | (with_reducible refine below_drewN ?_ _) | (with_reducible refine Below.drew ?_) | (with_reducible refine Below.setCell ?_ ?_ _) | (with_reducible refine Below.alloc ?_ ?_ _) | (simp; done) | (simp; omega) | omega)⟩
    · obtain ⟨j, hj⟩ : ∃ j : Nat, (a2 % 48).toNat = j := ⟨_, rfl⟩
      have j48 : j < 48 := by omega
      have em : a2.tmod 48 = j := by rw [Int.tmod_eq_emod_of_nonneg (by omega)]; omega
      have em2 : a2 % 48 = j := by omega
      have wa : IntKind.i64.wrap a2 = a2 := by rw [IntKind.wrap_i64]; omega
      obtain ⟨n0, n1⟩ := byteAt_range a0.enc j
      obtain ⟨x0, x1, x2⟩ := xor8 (byteAt a0.enc j) a3 n0 n1 (by omega) (by omega)
      have hA := apart_math a0 t f j j48 (b8 (bits .xor .u8 (byteAt a0.enc j) a3)) (by rw [b8_nat _ x0 x1]; exact x2)
      have hlen := turned_length a0.enc j (b8 (bits .xor .u8 (byteAt a0.enc j) a3)) (by omega)
      have c5 := fun w (L : Laid w) => hdec_any (turned a0.enc j (b8 (bits .xor .u8 (byteAt a0.enc j) a3))) (by omega) w L
      have ij := index_at a0.enc j (by omega)
      have st := slice_to a0.enc j (by omega)
      have sf : ∀ w, (Instr.slice 9 (.string (bs a0.enc)) (some (.int .i64 ((j : Int) + 1))) none none).run Tryd.prog w = .ok (.string (bs (a0.enc.drop (j + 1)))) w := slice_from a0.enc (j + 1) (by omega)
      have tl : cut a0.enc 0 j ++ b8 (bits .xor .u8 (byteAt a0.enc j) a3) :: a0.enc.drop (j + 1) = turned a0.enc j (b8 (bits .xor .u8 (byteAt a0.enc j) a3)) := rfl
      have l1 : (cut a0.enc 0 j).length = j := by rw [cut_len]; omega
      have l2 : (a0.enc.drop (j + 1)).length = 47 - j := by rw [List.length_drop]; omega
      have hk0 : (a3 == 0) = false := by simpa using hk
      have jz : ((j : Int) == 0) = true ↔ j = 0 := by simp
      obtain ⟨V, hV⟩ : ∃ V, decV (turned a0.enc j (b8 (bits .xor .u8 (byteAt a0.enc j) a3))) = V := ⟨_, rfl⟩
      obtain ⟨E, hE⟩ : ∃ E, decE (turned a0.enc j (b8 (bits .xor .u8 (byteAt a0.enc j) a3))) = E := ⟨_, rfl⟩
      rw [hV, hE] at hA c5
      clear hV hE hj x0 x1 x2 n0 n1
      generalize turned a0.enc j (b8 (bits .xor .u8 (byteAt a0.enc j) a3)) = L' at *
      generalize decR L' = R at *
      rcases hx with hm1 | hm1
      · obtain ⟨g1, g2⟩ := enc_yes hm1
        have hst := hst hm1
        rw [g1, g2] at c2
        clear e1 e2 g1 g2 hm hm1 t t1 hb f hk jz hlen em2
        generalize a0.enc = L at *
        generalize a1.enc = M at *
        unfold Hd.val at *
        go_enter Tryd.func6, Tryd.ntmps6
        go_wp2_with fail
        (with_reducible refine (c1 _ (by first | (with_reducible exact HL) | (with_reducible exact HL.alloc _) | (with_reducible exact (HL.alloc _).alloc _))).mono ?_)
        rintro e v1 ⟨rfl, hb⟩
        have H := ((HdIn.made a0 w 25).kept (below_one _ _)).kept hb
        have H2 := (HdIn.made2 a1 w _ 25).kept hb
        have hb' : Below w.heap.size w v1 := by first | (with_reducible exact hb) | (with_reducible exact below_in hb) | (with_reducible exact below_in (below_in hb))
        replace HL := HL.kept hb'
        have hB := hb'
        clear hb hb'
        have ⟨k0_lt, k0_0, k0_1, k0_2, k0_3, k0_4, k0_5, k0_6, k0_7, k0_8, k0_9, k0_10, k0_11, k0_12⟩ := H
        have ⟨k1_lt, k1_0, k1_1, k1_2, k1_3, k1_4, k1_5, k1_6, k1_7, k1_8, k1_9, k1_10, k1_11, k1_12⟩ := H2
        go_wp2_with fail
        (with_reducible refine (c2 _ (by first | (with_reducible exact HL) | (with_reducible exact HL.alloc _) | (with_reducible exact (HL.alloc _).alloc _))).mono ?_)
        rintro e v2 ⟨rfl, hb⟩
        have hb' : Below v1.heap.size v1 v2 := by first | (with_reducible exact hb) | (with_reducible exact below_in hb) | (with_reducible exact below_in (below_in hb))
        replace H := H.kept hb'
        replace H2 := H2.kept hb'
        replace HL := HL.kept hb'
        replace hB := hB.trans (hb'.mono hB.size)
        clear hb hb'
        clear k0_0 k0_1 k0_2 k0_3 k0_4 k0_5 k0_6 k0_7 k0_8 k0_9 k0_10 k0_11 k0_12 k0_lt k1_0 k1_1 k1_2 k1_3 k1_4 k1_5 k1_6 k1_7 k1_8 k1_9 k1_10 k1_11 k1_12 k1_lt
        have ⟨k0_lt, k0_0, k0_1, k0_2, k0_3, k0_4, k0_5, k0_6, k0_7, k0_8, k0_9, k0_10, k0_11, k0_12⟩ := H
        have ⟨k1_lt, k1_0, k1_1, k1_2, k1_3, k1_4, k1_5, k1_6, k1_7, k1_8, k1_9, k1_10, k1_11, k1_12⟩ := H2
        go_wp2_with fail
        (with_reducible refine (cz _ (by first | (with_reducible exact HL) | (with_reducible exact HL.alloc _) | (with_reducible exact (HL.alloc _).alloc _))).mono ?_)
        rintro e v3 ⟨rfl, hb⟩
        have hb' : Below v2.heap.size v2 v3 := by first | (with_reducible exact hb) | (with_reducible exact below_in hb) | (with_reducible exact below_in (below_in hb))
        replace H := H.kept hb'
        replace H2 := H2.kept hb'
        replace HL := HL.kept hb'
        replace hB := hB.trans (hb'.mono hB.size)
        clear hb hb'
        clear k0_0 k0_1 k0_2 k0_3 k0_4 k0_5 k0_6 k0_7 k0_8 k0_9 k0_10 k0_11 k0_12 k0_lt k1_0 k1_1 k1_2 k1_3 k1_4 k1_5 k1_6 k1_7 k1_8 k1_9 k1_10 k1_11 k1_12 k1_lt
        have ⟨k0_lt, k0_0, k0_1, k0_2, k0_3, k0_4, k0_5, k0_6, k0_7, k0_8, k0_9, k0_10, k0_11, k0_12⟩ := H
        have ⟨k1_lt, k1_0, k1_1, k1_2, k1_3, k1_4, k1_5, k1_6, k1_7, k1_8, k1_9, k1_10, k1_11, k1_12⟩ := H2
        have hz3 := hB.size
        have hw := H.lt
        go_upto_region 8 with fail
        go_cut [14, 15, 16] (fun p r g wx => ∃ b : Nat, p = .pointer (some ⟨b, 0, none⟩) ∧ r = .string (bs R) ∧ g = .int .i64 E ∧ HdIn V b wx ∧ HdIn a0 w.heap.size wx ∧ Below w.heap.size w wx)
        case first =>
          clear k0_0 k0_1 k0_2 k0_3 k0_4 k0_5 k0_6 k0_7 k0_8 k0_9 k0_10 k0_11 k0_12 k0_lt k1_0 k1_1 k1_2 k1_3 k1_4 k1_5 k1_6 k1_7 k1_8 k1_9 k1_10 k1_11 k1_12 k1_lt
          have wj : IntKind.i64.wrap ((j : Int) + 1) = (j : Int) + 1 := by rw [IntKind.wrap_i64]; omega
          have BA : Below v3.heap.size v3 (v3.alloc (.cells #[.int .u8 (bits .xor .u8 (byteAt L j) a3)] 5)).drew := (Below.alloc (Below.refl _ _) (Nat.le_refl _) _).drew
          have BB : Below v3.heap.size v3 ((v3.alloc (.cells #[.int .u8 (bits .xor .u8 (byteAt L j) a3)] 5)).alloc (.cells #[.int .i64 0, .int .i64 0, .int .i64 0, .int .i64 0, .int .i64 0, .int .i64 0, .int .u32 0, .int .u32 0, .int .u32 0, .int .u64 0, .int .u64 0, .int .u64 0, .int .u64 0] 25)).drew := (Below.alloc (Below.alloc (Below.refl _ _) (Nat.le_refl _) _) (by simp) _).drew
          have BD : Below v3.heap.size v3 ((v3.alloc (.cells #[.int .i64 0, .int .i64 0, .int .i64 0, .int .i64 0, .int .i64 0, .int .i64 0, .int .u32 0, .int .u32 0, .int .u32 0, .int .u64 0, .int .u64 0, .int .u64 0, .int .u64 0] 25)).alloc (.cells #[.int .u8 (bits .xor .u8 (byteAt L j) a3)] 5)).drew := (Below.alloc (Below.alloc (Below.refl _ _) (Nat.le_refl _) _) (by simp) _).drew
          have hjb : j ≤ 9223372036854775806 := by omega
          have hjc : j + 1 + (47 - j) ≤ 9223372036854775807 := by omega
          have hA := HL.kept BA
          have hB2 := HL.kept BB
          have hD := HL.kept BD
          refine wp_region_any (by kernel_rfl) ?_
          change wpAny _ _ _ _ _ _ _ (World.drew _)
          refine wpAny_take (i := 0) (v := .string (bs L)) rfl (by kernel_rfl) (by kernel_rfl) (by kernel_rfl) (fun _ _ _ h => h) (Or.inl ⟨by rfl, fun w => by go_simp⟩) ?_
          refine wpAny_take (i := 1) (v := .int .i64 j) rfl (by kernel_rfl) (by kernel_rfl) (by kernel_rfl) (fun _ _ _ h => h) (Or.inl ⟨by rfl, fun w => by go_simp⟩) ?_
          refine wpAny_take (i := 2) (v := .string (bs (cut L 0 j))) rfl (by kernel_rfl) (by kernel_rfl) (by kernel_rfl) (fun _ _ _ h => h) (Or.inl ⟨by rfl, fun w => by go_simp⟩) ?_
          refine wpAny_take (i := 3) (v := .string (bs L)) rfl (by kernel_rfl) (by kernel_rfl) (by kernel_rfl) (fun _ _ _ h => h) (Or.inl ⟨by rfl, fun w => by go_simp⟩) ?_
          refine wpAny_take (i := 4) (v := .int .i64 j) rfl (by kernel_rfl) (by kernel_rfl) (by kernel_rfl) (fun _ _ _ h => h) (Or.inl ⟨by rfl, fun w => by go_simp⟩) ?_
          refine wpAny_take (i := 5) (v := .int .u8 (byteAt L j)) rfl (by kernel_rfl) (by kernel_rfl) (by kernel_rfl) (fun _ _ _ h => h) (Or.inl ⟨by rfl, fun w => by go_simp⟩) ?_
          refine wpAny_take (i := 6) (v := .int .u8 a3) rfl (by kernel_rfl) (by kernel_rfl) (by kernel_rfl) (fun _ _ _ h => h) (Or.inl ⟨by rfl, fun w => by go_simp⟩) ?_
          refine wpAny_take (i := 7) (v := .int .u8 (bits .xor .u8 (byteAt L j) a3)) rfl (by kernel_rfl) (by kernel_rfl) (by kernel_rfl) (fun _ _ _ h => h) (Or.inl ⟨by rfl, fun w => by go_simp⟩) ?_
          refine wpAny_take (i := 11) (v := .string (bs L)) rfl (by kernel_rfl) (by kernel_rfl) (by kernel_rfl) (fun _ _ _ h => h) (Or.inl ⟨by rfl, fun w => by go_simp⟩) ?_
          refine wpAny_take (i := 12) (v := .int .i64 j) rfl (by kernel_rfl) (by kernel_rfl) (by kernel_rfl) (fun _ _ _ h => h) (Or.inl ⟨by rfl, fun w => by go_simp⟩) ?_
          refine wpAny_take (i := 13) (v := .int .i64 ((j : Int) + 1)) rfl (by kernel_rfl) (by kernel_rfl) (by kernel_rfl) (fun _ _ _ h => h) (Or.inl ⟨by rfl, fun w => by go_simp⟩) ?_
          refine wpAny_take (i := 14) (v := .string (bs (L.drop (j + 1)))) rfl (by kernel_rfl) (by kernel_rfl) (by kernel_rfl) (fun _ _ _ h => h) (Or.inl ⟨by rfl, fun w => by go_simp⟩) ?_
          refine wpAny_ready (rs := [8, 21]) (by kernel_rfl) (by simp) ?_
          refine AllReady.cons rfl (fun K hK => ?_) (AllReady.cons rfl (fun K hK => ?_) (AllReady.nil))
          · go_simp
            (refine hK _ _ ?_; clear hK K)
            have cv1 : (convert 37 9 (.slice (some ⟨v3.heap.size, 0, none⟩) 1 1)).run Tryd.prog (v3.alloc (.cells #[.int .u8 (bits .xor .u8 (byteAt L j) a3)] 5)).drew = .ok (.string (bs [b8 (bits .xor .u8 (byteAt L j) a3)])) (v3.alloc (.cells #[.int .u8 (bits .xor .u8 (byteAt L j) a3)] 5)).drew := one_byte _ v3.drew
            refine wpAny_ready (rs := [9, 21]) (by kernel_rfl) (by simp) ?_
            refine AllReady.cons rfl (fun K hK => ?_) (AllReady.cons rfl (fun K hK => ?_) (AllReady.nil))
            · go_simp
              (refine hK _ _ ?_; clear hK K)
              refine wpAny_take (i := 10) (v := .string (bs (cut L 0 j ++ [b8 (bits .xor .u8 (byteAt L j) a3)]))) rfl (by kernel_rfl) (by kernel_rfl) (by kernel_rfl) (fun _ _ _ h => h) (Or.inl ⟨by rfl, fun w => by go_simp⟩) ?_
              refine wpAny_take (i := 15) (v := .string (bs L')) rfl (by kernel_rfl) (by kernel_rfl) (by kernel_rfl) (fun _ _ _ h => h) (Or.inl ⟨by rfl, fun w => by go_simp⟩) ?_
              refine wpAny_ready (rs := [16, 21]) (by kernel_rfl) (by simp) ?_
              refine AllReady.cons rfl (fun K hK => ?_) (AllReady.cons rfl (fun K hK => ?_) (AllReady.nil))
              · go_simp
                go_wp2_with ((go_at_call 13; with_reducible refine (c5 _ (by exact hA)).mono ?_; rintro e w5 ⟨rfl, hb⟩))
                first | (refine hK _ _ ?_; clear hK K) | skip
                have hb5 : Below v3.heap.size v3 w5 := BA.trans (hb.mono (by simp <;> omega))
                have H5 := H.kept hb5
                have hB5 := hB.trans (hb5.mono hz3)
                refine wpAny_take (i := 17) (v := .tuple #[.agg #[.int .i64 V.leap, .int .i64 V.ver, .int .i64 V.mode, .int .i64 V.str, .int .i64 V.poll, .int .i64 V.prec, .int .u32 V.rdel, .int .u32 V.rdis, .int .u32 V.ref, .int .u64 V.reft, .int .u64 V.org, .int .u64 V.rcv, .int .u64 V.tx], .string (bs R), .int .i64 E]) rfl (by kernel_rfl) (by kernel_rfl) (by kernel_rfl) (fun _ _ _ h => h) (Or.inl ⟨by rfl, fun w => by go_simp⟩) ?_
                refine wpAny_take (i := 18) (v := .agg #[.int .i64 V.leap, .int .i64 V.ver, .int .i64 V.mode, .int .i64 V.str, .int .i64 V.poll, .int .i64 V.prec, .int .u32 V.rdel, .int .u32 V.rdis, .int .u32 V.ref, .int .u64 V.reft, .int .u64 V.org, .int .u64 V.rcv, .int .u64 V.tx]) rfl (by kernel_rfl) (by kernel_rfl) (by kernel_rfl) (fun _ _ _ h => h) (Or.inl ⟨by rfl, fun w => by go_simp⟩) ?_
                refine wpAny_take (i := 19) (v := .string (bs R)) rfl (by kernel_rfl) (by kernel_rfl) (by kernel_rfl) (fun _ _ _ h => h) (Or.inl ⟨by rfl, fun w => by go_simp⟩) ?_
                refine wpAny_take (i := 20) (v := .int .i64 E) rfl (by kernel_rfl) (by kernel_rfl) (by kernel_rfl) (fun _ _ _ h => h) (Or.inl ⟨by rfl, fun w => by go_simp⟩) ?_
                refine wpAny_ready (rs := [21]) (by kernel_rfl) (by simp) ?_
                refine AllReady.cons rfl (fun K hK => ?_) (AllReady.nil)
                · go_simp
                  (refine hK _ _ ?_; clear hK K)
                  refine wpAny_ready (rs := [22]) (by kernel_rfl) (by simp) ?_
                  refine AllReady.cons rfl (fun K hK => ?_) (AllReady.nil)
                  · go_simp
                    (refine hK _ _ ?_; clear hK K)
                    refine wpAny_take (i := 23) (v := .string (bs R)) rfl (by kernel_rfl) (by kernel_rfl) (by kernel_rfl) (fun _ _ _ h => h) (Or.inl ⟨by rfl, fun w => by go_simp⟩) ?_
                    refine wpAny_take (i := 24) (v := .int .i64 E) rfl (by kernel_rfl) (by kernel_rfl) (by kernel_rfl) (fun _ _ _ h => h) (Or.inl ⟨by rfl, fun w => by go_simp⟩) ?_
                    refine wpAny_done (by kernel_rfl) ?_ _
                    go_wp2_with fail
                    go_meet
                    exact ⟨w5.heap.size, rfl, rfl, rfl, HdIn.made V w5 _, H5.kept (below_one _ _), Below.alloc hB5 hB5.size _⟩
              · go_simp
                (refine hK _ _ ?_; clear hK K)
                refine wpAny_ready (rs := [16]) (by kernel_rfl) (by simp) ?_
                refine AllReady.cons rfl (fun K hK => ?_) (AllReady.nil)
                · go_simp
                  go_wp2_with ((go_at_call 13; with_reducible refine (c5 _ (by exact hB2)).mono ?_; rintro e w5 ⟨rfl, hb⟩))
                  first | (refine hK _ _ ?_; clear hK K) | skip
                  have hb5 : Below v3.heap.size v3 w5 := BB.trans (hb.mono (by simp <;> omega))
                  have H5 := H.kept hb5
                  have hB5 := hB.trans (hb5.mono hz3)
                  refine wpAny_take (i := 17) (v := .tuple #[.agg #[.int .i64 V.leap, .int .i64 V.ver, .int .i64 V.mode, .int .i64 V.str, .int .i64 V.poll, .int .i64 V.prec, .int .u32 V.rdel, .int .u32 V.rdis, .int .u32 V.ref, .int .u64 V.reft, .int .u64 V.org, .int .u64 V.rcv, .int .u64 V.tx], .string (bs R), .int .i64 E]) rfl (by kernel_rfl) (by kernel_rfl) (by kernel_rfl) (fun _ _ _ h => h) (Or.inl ⟨by rfl, fun w => by go_simp⟩) ?_
                  refine wpAny_take (i := 18) (v := .agg #[.int .i64 V.leap, .int .i64 V.ver, .int .i64 V.mode, .int .i64 V.str, .int .i64 V.poll, .int .i64 V.prec, .int .u32 V.rdel, .int .u32 V.rdis, .int .u32 V.ref, .int .u64 V.reft, .int .u64 V.org, .int .u64 V.rcv, .int .u64 V.tx]) rfl (by kernel_rfl) (by kernel_rfl) (by kernel_rfl) (fun _ _ _ h => h) (Or.inl ⟨by rfl, fun w => by go_simp⟩) ?_
                  refine wpAny_take (i := 19) (v := .string (bs R)) rfl (by kernel_rfl) (by kernel_rfl) (by kernel_rfl) (fun _ _ _ h => h) (Or.inl ⟨by rfl, fun w => by go_simp⟩) ?_
                  refine wpAny_take (i := 20) (v := .int .i64 E) rfl (by kernel_rfl) (by kernel_rfl) (by kernel_rfl) (fun _ _ _ h => h) (Or.inl ⟨by rfl, fun w => by go_simp⟩) ?_
                  have z5 : w5.heap[v3.heap.size + 1]? = some (.cells #[.int .i64 0, .int .i64 0, .int .i64 0, .int .i64 0, .int .i64 0, .int .i64 0, .int .u32 0, .int .u32 0, .int .u32 0, .int .u64 0, .int .u64 0, .int .u64 0, .int .u64 0] 25 (0, 0)) := by
                    refine (hb.block _ (by simp <;> omega)).trans ?_
                    exact heap_new _ _ (by simp)
                  have r0_ := (blk_at z5 0 (by simp)).1
                  have q0_ := (blk_at z5 0 (by simp)).2
                  have r1_ := (blk_at z5 1 (by simp)).1
                  have q1_ := (blk_at z5 1 (by simp)).2
                  have r2_ := (blk_at z5 2 (by simp)).1
                  have q2_ := (blk_at z5 2 (by simp)).2
                  have r3_ := (blk_at z5 3 (by simp)).1
                  have q3_ := (blk_at z5 3 (by simp)).2
                  have r4_ := (blk_at z5 4 (by simp)).1
                  have q4_ := (blk_at z5 4 (by simp)).2
                  have r5_ := (blk_at z5 5 (by simp)).1
                  have q5_ := (blk_at z5 5 (by simp)).2
                  have r6_ := (blk_at z5 6 (by simp)).1
                  have q6_ := (blk_at z5 6 (by simp)).2
                  have r7_ := (blk_at z5 7 (by simp)).1
                  have q7_ := (blk_at z5 7 (by simp)).2
                  have r8_ := (blk_at z5 8 (by simp)).1
                  have q8_ := (blk_at z5 8 (by simp)).2
                  have r9_ := (blk_at z5 9 (by simp)).1
                  have q9_ := (blk_at z5 9 (by simp)).2
                  have r10_ := (blk_at z5 10 (by simp)).1
                  have q10_ := (blk_at z5 10 (by simp)).2
                  have r11_ := (blk_at z5 11 (by simp)).1
                  have q11_ := (blk_at z5 11 (by simp)).2
                  have r12_ := (blk_at z5 12 (by simp)).1
                  have q12_ := (blk_at z5 12 (by simp)).2
                  simp only [List.getElem_toArray, List.getElem_cons_zero, List.getElem_cons_succ] at r0_ r1_ r2_ r3_ r4_ r5_ r6_ r7_ r8_ r9_ r10_ r11_ r12_
                  have Z5 := Lib.hid z5
                  clear z5
                  refine wpAny_ready (rs := [22]) (by kernel_rfl) (by simp) ?_
                  refine AllReady.cons rfl (fun K hK => ?_) (AllReady.nil)
                  · go_simp
                    (refine hK _ _ ?_; clear hK K)
                    clear r0_ q0_ r1_ q1_ r2_ q2_ r3_ q3_ r4_ q4_ r5_ q5_ r6_ q6_ r7_ q7_ r8_ q8_ r9_ q9_ r10_ q10_ r11_ q11_ r12_ q12_
                    refine wpAny_take (i := 23) (v := .string (bs R)) rfl (by kernel_rfl) (by kernel_rfl) (by kernel_rfl) (fun _ _ _ h => h) (Or.inl ⟨by rfl, fun w => by go_simp⟩) ?_
                    refine wpAny_take (i := 24) (v := .int .i64 E) rfl (by kernel_rfl) (by kernel_rfl) (by kernel_rfl) (fun _ _ _ h => h) (Or.inl ⟨by rfl, fun w => by go_simp⟩) ?_
                    refine wpAny_done (by kernel_rfl) ?_ _
                    go_wp2_with fail
                    go_meet
                    refine ⟨v3.heap.size + 1, rfl, rfl, rfl, HdIn.filled (blk_fill _ _ _ _ _ _ _ _ _ _ _ _ _ _ _ _ _ _ _ _ _ _ _ _ _ _ _ _ _ Z5.out), H5.keptB (below_fill w5 v3.heap.size (v3.heap.size + 1) (by omega) _ _ _ _ _ _ _ _ _ _ _ _ _) hw, hB5.trans ((below_fill w5 v3.heap.size (v3.heap.size + 1) (by omega) _ _ _ _ _ _ _ _ _ _ _ _ _).mono hz3)⟩
            · go_simp
              (refine hK _ _ ?_; clear hK K)
              have cv2 : (convert 37 9 (.slice (some ⟨v3.heap.size, 0, none⟩) 1 1)).run Tryd.prog ((v3.alloc (.cells #[.int .u8 (bits .xor .u8 (byteAt L j) a3)] 5)).alloc (.cells #[.int .i64 0, .int .i64 0, .int .i64 0, .int .i64 0, .int .i64 0, .int .i64 0, .int .u32 0, .int .u32 0, .int .u32 0, .int .u64 0, .int .u64 0, .int .u64 0, .int .u64 0] 25)).drew = .ok (.string (bs [b8 (bits .xor .u8 (byteAt L j) a3)])) ((v3.alloc (.cells #[.int .u8 (bits .xor .u8 (byteAt L j) a3)] 5)).alloc (.cells #[.int .i64 0, .int .i64 0, .int .i64 0, .int .i64 0, .int .i64 0, .int .i64 0, .int .u32 0, .int .u32 0, .int .u32 0, .int .u64 0, .int .u64 0, .int .u64 0, .int .u64 0] 25)).drew := one_byte_in _ _ _ (cell_of_one (heap_old v3 _ _ rfl))
              refine wpAny_ready (rs := [9]) (by kernel_rfl) (by simp) ?_
              refine AllReady.cons rfl (fun K hK => ?_) (AllReady.nil)
              · go_simp
                (refine hK _ _ ?_; clear hK K)
                refine wpAny_take (i := 10) (v := .string (bs (cut L 0 j ++ [b8 (bits .xor .u8 (byteAt L j) a3)]))) rfl (by kernel_rfl) (by kernel_rfl) (by kernel_rfl) (fun _ _ _ h => h) (Or.inl ⟨by rfl, fun w => by go_simp⟩) ?_
                refine wpAny_take (i := 15) (v := .string (bs L')) rfl (by kernel_rfl) (by kernel_rfl) (by kernel_rfl) (fun _ _ _ h => h) (Or.inl ⟨by rfl, fun w => by go_simp⟩) ?_
                refine wpAny_ready (rs := [16]) (by kernel_rfl) (by simp) ?_
                refine AllReady.cons rfl (fun K hK => ?_) (AllReady.nil)
                · go_simp
                  go_wp2_with ((go_at_call 13; with_reducible refine (c5 _ (by exact hB2)).mono ?_; rintro e w5 ⟨rfl, hb⟩))
                  first | (refine hK _ _ ?_; clear hK K) | skip
                  have hb5 : Below v3.heap.size v3 w5 := BB.trans (hb.mono (by simp <;> omega))
                  have H5 := H.kept hb5
                  have hB5 := hB.trans (hb5.mono hz3)
                  refine wpAny_take (i := 17) (v := .tuple #[.agg #[.int .i64 V.leap, .int .i64 V.ver, .int .i64 V.mode, .int .i64 V.str, .int .i64 V.poll, .int .i64 V.prec, .int .u32 V.rdel, .int .u32 V.rdis, .int .u32 V.ref, .int .u64 V.reft, .int .u64 V.org, .int .u64 V.rcv, .int .u64 V.tx], .string (bs R), .int .i64 E]) rfl (by kernel_rfl) (by kernel_rfl) (by kernel_rfl) (fun _ _ _ h => h) (Or.inl ⟨by rfl, fun w => by go_simp⟩) ?_
                  refine wpAny_take (i := 18) (v := .agg #[.int .i64 V.leap, .int .i64 V.ver, .int .i64 V.mode, .int .i64 V.str, .int .i64 V.poll, .int .i64 V.prec, .int .u32 V.rdel, .int .u32 V.rdis, .int .u32 V.ref, .int .u64 V.reft, .int .u64 V.org, .int .u64 V.rcv, .int .u64 V.tx]) rfl (by kernel_rfl) (by kernel_rfl) (by kernel_rfl) (fun _ _ _ h => h) (Or.inl ⟨by rfl, fun w => by go_simp⟩) ?_
                  refine wpAny_take (i := 19) (v := .string (bs R)) rfl (by kernel_rfl) (by kernel_rfl) (by kernel_rfl) (fun _ _ _ h => h) (Or.inl ⟨by rfl, fun w => by go_simp⟩) ?_
                  refine wpAny_take (i := 20) (v := .int .i64 E) rfl (by kernel_rfl) (by kernel_rfl) (by kernel_rfl) (fun _ _ _ h => h) (Or.inl ⟨by rfl, fun w => by go_simp⟩) ?_
                  have z5 : w5.heap[v3.heap.size + 1]? = some (.cells #[.int .i64 0, .int .i64 0, .int .i64 0, .int .i64 0, .int .i64 0, .int .i64 0, .int .u32 0, .int .u32 0, .int .u32 0, .int .u64 0, .int .u64 0, .int .u64 0, .int .u64 0] 25 (0, 0)) := by
                    refine (hb.block _ (by simp <;> omega)).trans ?_
                    exact heap_new _ _ (by simp)
                  have r0_ := (blk_at z5 0 (by simp)).1
                  have q0_ := (blk_at z5 0 (by simp)).2
                  have r1_ := (blk_at z5 1 (by simp)).1
                  have q1_ := (blk_at z5 1 (by simp)).2
                  have r2_ := (blk_at z5 2 (by simp)).1
                  have q2_ := (blk_at z5 2 (by simp)).2
                  have r3_ := (blk_at z5 3 (by simp)).1
                  have q3_ := (blk_at z5 3 (by simp)).2
                  have r4_ := (blk_at z5 4 (by simp)).1
                  have q4_ := (blk_at z5 4 (by simp)).2
                  have r5_ := (blk_at z5 5 (by simp)).1
                  have q5_ := (blk_at z5 5 (by simp)).2
                  have r6_ := (blk_at z5 6 (by simp)).1
                  have q6_ := (blk_at z5 6 (by simp)).2
                  have r7_ := (blk_at z5 7 (by simp)).1
                  have q7_ := (blk_at z5 7 (by simp)).2
                  have r8_ := (blk_at z5 8 (by simp)).1
                  have q8_ := (blk_at z5 8 (by simp)).2
                  have r9_ := (blk_at z5 9 (by simp)).1
                  have q9_ := (blk_at z5 9 (by simp)).2
                  have r10_ := (blk_at z5 10 (by simp)).1
                  have q10_ := (blk_at z5 10 (by simp)).2
                  have r11_ := (blk_at z5 11 (by simp)).1
                  have q11_ := (blk_at z5 11 (by simp)).2
                  have r12_ := (blk_at z5 12 (by simp)).1
                  have q12_ := (blk_at z5 12 (by simp)).2
                  simp only [List.getElem_toArray, List.getElem_cons_zero, List.getElem_cons_succ] at r0_ r1_ r2_ r3_ r4_ r5_ r6_ r7_ r8_ r9_ r10_ r11_ r12_
                  have Z5 := Lib.hid z5
                  clear z5
                  refine wpAny_ready (rs := [22]) (by kernel_rfl) (by simp) ?_
                  refine AllReady.cons rfl (fun K hK => ?_) (AllReady.nil)
                  · go_simp
                    (refine hK _ _ ?_; clear hK K)
                    clear r0_ q0_ r1_ q1_ r2_ q2_ r3_ q3_ r4_ q4_ r5_ q5_ r6_ q6_ r7_ q7_ r8_ q8_ r9_ q9_ r10_ q10_ r11_ q11_ r12_ q12_
                    refine wpAny_take (i := 23) (v := .string (bs R)) rfl (by kernel_rfl) (by kernel_rfl) (by kernel_rfl) (fun _ _ _ h => h) (Or.inl ⟨by rfl, fun w => by go_simp⟩) ?_
                    refine wpAny_take (i := 24) (v := .int .i64 E) rfl (by kernel_rfl) (by kernel_rfl) (by kernel_rfl) (fun _ _ _ h => h) (Or.inl ⟨by rfl, fun w => by go_simp⟩) ?_
                    refine wpAny_done (by kernel_rfl) ?_ _
                    go_wp2_with fail
                    go_meet
                    refine ⟨v3.heap.size + 1, rfl, rfl, rfl, HdIn.filled (blk_fill _ _ _ _ _ _ _ _ _ _ _ _ _ _ _ _ _ _ _ _ _ _ _ _ _ _ _ _ _ Z5.out), H5.keptB (below_fill w5 v3.heap.size (v3.heap.size + 1) (by omega) _ _ _ _ _ _ _ _ _ _ _ _ _) hw, hB5.trans ((below_fill w5 v3.heap.size (v3.heap.size + 1) (by omega) _ _ _ _ _ _ _ _ _ _ _ _ _).mono hz3)⟩
          · go_simp
            (refine hK _ _ ?_; clear hK K)
            refine wpAny_ready (rs := [8]) (by kernel_rfl) (by simp) ?_
            refine AllReady.cons rfl (fun K hK => ?_) (AllReady.nil)
            · go_simp
              (refine hK _ _ ?_; clear hK K)
              have cv3 : (convert 37 9 (.slice (some ⟨v3.heap.size + 1, 0, none⟩) 1 1)).run Tryd.prog ((v3.alloc (.cells #[.int .i64 0, .int .i64 0, .int .i64 0, .int .i64 0, .int .i64 0, .int .i64 0, .int .u32 0, .int .u32 0, .int .u32 0, .int .u64 0, .int .u64 0, .int .u64 0, .int .u64 0] 25)).alloc (.cells #[.int .u8 (bits .xor .u8 (byteAt L j) a3)] 5)).drew = .ok (.string (bs [b8 (bits .xor .u8 (byteAt L j) a3)])) ((v3.alloc (.cells #[.int .i64 0, .int .i64 0, .int .i64 0, .int .i64 0, .int .i64 0, .int .i64 0, .int .u32 0, .int .u32 0, .int .u32 0, .int .u64 0, .int .u64 0, .int .u64 0, .int .u64 0] 25)).alloc (.cells #[.int .u8 (bits .xor .u8 (byteAt L j) a3)] 5)).drew := one_byte_in _ _ _ (cell_of_one (heap_new (v3.alloc _) _ (by simp)))
              refine wpAny_ready (rs := [9]) (by kernel_rfl) (by simp) ?_
              refine AllReady.cons rfl (fun K hK => ?_) (AllReady.nil)
              · go_simp
                (refine hK _ _ ?_; clear hK K)
                refine wpAny_take (i := 10) (v := .string (bs (cut L 0 j ++ [b8 (bits .xor .u8 (byteAt L j) a3)]))) rfl (by kernel_rfl) (by kernel_rfl) (by kernel_rfl) (fun _ _ _ h => h) (Or.inl ⟨by rfl, fun w => by go_simp⟩) ?_
                refine wpAny_take (i := 15) (v := .string (bs L')) rfl (by kernel_rfl) (by kernel_rfl) (by kernel_rfl) (fun _ _ _ h => h) (Or.inl ⟨by rfl, fun w => by go_simp⟩) ?_
                refine wpAny_ready (rs := [16]) (by kernel_rfl) (by simp) ?_
                refine AllReady.cons rfl (fun K hK => ?_) (AllReady.nil)
                · go_simp
                  go_wp2_with ((go_at_call 13; with_reducible refine (c5 _ (by exact hD)).mono ?_; rintro e w5 ⟨rfl, hb⟩))
                  first | (refine hK _ _ ?_; clear hK K) | skip
                  have hb5 : Below v3.heap.size v3 w5 := BD.trans (hb.mono (by simp <;> omega))
                  have H5 := H.kept hb5
                  have hB5 := hB.trans (hb5.mono hz3)
                  refine wpAny_take (i := 17) (v := .tuple #[.agg #[.int .i64 V.leap, .int .i64 V.ver, .int .i64 V.mode, .int .i64 V.str, .int .i64 V.poll, .int .i64 V.prec, .int .u32 V.rdel, .int .u32 V.rdis, .int .u32 V.ref, .int .u64 V.reft, .int .u64 V.org, .int .u64 V.rcv, .int .u64 V.tx], .string (bs R), .int .i64 E]) rfl (by kernel_rfl) (by kernel_rfl) (by kernel_rfl) (fun _ _ _ h => h) (Or.inl ⟨by rfl, fun w => by go_simp⟩) ?_
                  refine wpAny_take (i := 18) (v := .agg #[.int .i64 V.leap, .int .i64 V.ver, .int .i64 V.mode, .int .i64 V.str, .int .i64 V.poll, .int .i64 V.prec, .int .u32 V.rdel, .int .u32 V.rdis, .int .u32 V.ref, .int .u64 V.reft, .int .u64 V.org, .int .u64 V.rcv, .int .u64 V.tx]) rfl (by kernel_rfl) (by kernel_rfl) (by kernel_rfl) (fun _ _ _ h => h) (Or.inl ⟨by rfl, fun w => by go_simp⟩) ?_
                  refine wpAny_take (i := 19) (v := .string (bs R)) rfl (by kernel_rfl) (by kernel_rfl) (by kernel_rfl) (fun _ _ _ h => h) (Or.inl ⟨by rfl, fun w => by go_simp⟩) ?_
                  refine wpAny_take (i := 20) (v := .int .i64 E) rfl (by kernel_rfl) (by kernel_rfl) (by kernel_rfl) (fun _ _ _ h => h) (Or.inl ⟨by rfl, fun w => by go_simp⟩) ?_
                  have z5 : w5.heap[v3.heap.size]? = some (.cells #[.int .i64 0, .int .i64 0, .int .i64 0, .int .i64 0, .int .i64 0, .int .i64 0, .int .u32 0, .int .u32 0, .int .u32 0, .int .u64 0, .int .u64 0, .int .u64 0, .int .u64 0] 25 (0, 0)) := by
                    refine (hb.block _ (by simp <;> omega)).trans ?_
                    exact heap_old _ _ _ rfl
                  have r0_ := (blk_at z5 0 (by simp)).1
                  have q0_ := (blk_at z5 0 (by simp)).2
                  have r1_ := (blk_at z5 1 (by simp)).1
                  have q1_ := (blk_at z5 1 (by simp)).2
                  have r2_ := (blk_at z5 2 (by simp)).1
                  have q2_ := (blk_at z5 2 (by simp)).2
                  have r3_ := (blk_at z5 3 (by simp)).1
                  have q3_ := (blk_at z5 3 (by simp)).2
                  have r4_ := (blk_at z5 4 (by simp)).1
                  have q4_ := (blk_at z5 4 (by simp)).2
                  have r5_ := (blk_at z5 5 (by simp)).1
                  have q5_ := (blk_at z5 5 (by simp)).2
                  have r6_ := (blk_at z5 6 (by simp)).1
                  have q6_ := (blk_at z5 6 (by simp)).2
                  have r7_ := (blk_at z5 7 (by simp)).1
                  have q7_ := (blk_at z5 7 (by simp)).2
                  have r8_ := (blk_at z5 8 (by simp)).1
                  have q8_ := (blk_at z5 8 (by simp)).2
                  have r9_ := (blk_at z5 9 (by simp)).1
                  have q9_ := (blk_at z5 9 (by simp)).2
                  have r10_ := (blk_at z5 10 (by simp)).1
                  have q10_ := (blk_at z5 10 (by simp)).2
                  have r11_ := (blk_at z5 11 (by simp)).1
                  have q11_ := (blk_at z5 11 (by simp)).2
                  have r12_ := (blk_at z5 12 (by simp)).1
                  have q12_ := (blk_at z5 12 (by simp)).2
                  simp only [List.getElem_toArray, List.getElem_cons_zero, List.getElem_cons_succ] at r0_ r1_ r2_ r3_ r4_ r5_ r6_ r7_ r8_ r9_ r10_ r11_ r12_
                  have Z5 := Lib.hid z5
                  clear z5
                  refine wpAny_ready (rs := [22]) (by kernel_rfl) (by simp) ?_
                  refine AllReady.cons rfl (fun K hK => ?_) (AllReady.nil)
                  · go_simp
                    (refine hK _ _ ?_; clear hK K)
                    clear r0_ q0_ r1_ q1_ r2_ q2_ r3_ q3_ r4_ q4_ r5_ q5_ r6_ q6_ r7_ q7_ r8_ q8_ r9_ q9_ r10_ q10_ r11_ q11_ r12_ q12_
                    refine wpAny_take (i := 23) (v := .string (bs R)) rfl (by kernel_rfl) (by kernel_rfl) (by kernel_rfl) (fun _ _ _ h => h) (Or.inl ⟨by rfl, fun w => by go_simp⟩) ?_
                    refine wpAny_take (i := 24) (v := .int .i64 E) rfl (by kernel_rfl) (by kernel_rfl) (by kernel_rfl) (fun _ _ _ h => h) (Or.inl ⟨by rfl, fun w => by go_simp⟩) ?_
                    refine wpAny_done (by kernel_rfl) ?_ _
                    go_wp2_with fail
                    go_meet
                    refine ⟨v3.heap.size, rfl, rfl, rfl, HdIn.filled (blk_fill _ _ _ _ _ _ _ _ _ _ _ _ _ _ _ _ _ _ _ _ _ _ _ _ _ _ _ _ _ Z5.out), H5.keptB (below_fill w5 v3.heap.size (v3.heap.size) (by omega) _ _ _ _ _ _ _ _ _ _ _ _ _) hw, hB5.trans ((below_fill w5 v3.heap.size (v3.heap.size) (by omega) _ _ _ _ _ _ _ _ _ _ _ _ _).mono hz3)⟩
        case rest =>
          obtain ⟨b, rfl, rfl, rfl, HV, H0, hB⟩ := hcut
          clear k0_0 k0_1 k0_2 k0_3 k0_4 k0_5 k0_6 k0_7 k0_8 k0_9 k0_10 k0_11 k0_12 k0_lt k1_0 k1_1 k1_2 k1_3 k1_4 k1_5 k1_6 k1_7 k1_8 k1_9 k1_10 k1_11 k1_12 k1_lt
          have ⟨x_lt, x0_, x1_, x2_, x3_, x4_, x5_, x6_, x7_, x8_, x9_, x10_, x11_, x12_⟩ := HV
          have ⟨y_lt, y0_, y1_, y2_, y3_, y4_, y5_, y6_, y7_, y8_, y9_, y10_, y11_, y12_⟩ := H0
          rcases hA with ⟨rfl, hne⟩ | ⟨rfl, rfl, rfl⟩
          · have hn := hdr_ne V a0 hne
            unfold Hd.val at hn
            clear hne
            go_wp2_with fail
            go_ret
            exact ⟨rfl, by have hz := hB.size; repeat' (first | (with_reducible exact Below.refl _ _) | (with_reducible assumption) | (with_reducible refine below_drewN ?_ _) | (with_reducible refine Below.drew ?_) | (with_reducible refine Below.setCell ?_ ?_ _) | (with_reducible refine Below.alloc ?_ ?_ _) | (simp; done) | (simp; omega) | omega)⟩
          · go_wp2_with fail
            go_ret
            exact ⟨rfl, by have hz := hB.size; repeat' (first | (with_reducible exact Below.refl _ _) | (with_reducible assumption) | (with_reducible refine below_drewN ?_ _) | (with_reducible refine Below.drew ?_) | (with_reducible refine Below.setCell ?_ ?_ _) | (with_reducible refine Below.alloc ?_ ?_ _) | (simp; done) | (simp; omega) | omega)⟩
      · obtain ⟨g1, g2⟩ := enc_no hm1
        rw [g1, g2] at c2
        clear e1 e2 g1 g2 hm hm1 t t1 hb f hst hk jz hlen em2
        generalize a0.enc = L at *
        unfold Hd.val at *
        go_enter Tryd.func6, Tryd.ntmps6
        go_wp2_with fail
        (with_reducible refine (c1 _ (by first | (with_reducible exact HL) | (with_reducible exact HL.alloc _) | (with_reducible exact (HL.alloc _).alloc _))).mono ?_)
        rintro e v1 ⟨rfl, hb⟩
        have H := ((HdIn.made a0 w 25).kept (below_one _ _)).kept hb
        have H2 := (HdIn.made2 a1 w _ 25).kept hb
        have hb' : Below w.heap.size w v1 := by first | (with_reducible exact hb) | (with_reducible exact below_in hb) | (with_reducible exact below_in (below_in hb))
        replace HL := HL.kept hb'
        have hB := hb'
        clear hb hb'
        have ⟨k0_lt, k0_0, k0_1, k0_2, k0_3, k0_4, k0_5, k0_6, k0_7, k0_8, k0_9, k0_10, k0_11, k0_12⟩ := H
        have ⟨k1_lt, k1_0, k1_1, k1_2, k1_3, k1_4, k1_5, k1_6, k1_7, k1_8, k1_9, k1_10, k1_11, k1_12⟩ := H2
        go_wp2_with fail
        (with_reducible refine (c2 _ (by first | (with_reducible exact HL) | (with_reducible exact HL.alloc _) | (with_reducible exact (HL.alloc _).alloc _))).mono ?_)
        rintro e v2 ⟨rfl, hb⟩
        have hb' : Below v1.heap.size v1 v2 := by first | (with_reducible exact hb) | (with_reducible exact below_in hb) | (with_reducible exact below_in (below_in hb))
        replace H := H.kept hb'
        replace H2 := H2.kept hb'
        replace HL := HL.kept hb'
        replace hB := hB.trans (hb'.mono hB.size)
        clear hb hb'
        clear k0_0 k0_1 k0_2 k0_3 k0_4 k0_5 k0_6 k0_7 k0_8 k0_9 k0_10 k0_11 k0_12 k0_lt k1_0 k1_1 k1_2 k1_3 k1_4 k1_5 k1_6 k1_7 k1_8 k1_9 k1_10 k1_11 k1_12 k1_lt
        have ⟨k0_lt, k0_0, k0_1, k0_2, k0_3, k0_4, k0_5, k0_6, k0_7, k0_8, k0_9, k0_10, k0_11, k0_12⟩ := H
        have ⟨k1_lt, k1_0, k1_1, k1_2, k1_3, k1_4, k1_5, k1_6, k1_7, k1_8, k1_9, k1_10, k1_11, k1_12⟩ := H2
        go_wp2_with fail
        (with_reducible refine (cz _ (by first | (with_reducible exact HL) | (with_reducible exact HL.alloc _) | (with_reducible exact (HL.alloc _).alloc _))).mono ?_)
        rintro e v3 ⟨rfl, hb⟩
        have hb' : Below v2.heap.size v2 v3 := by first | (with_reducible exact hb) | (with_reducible exact below_in hb) | (with_reducible exact below_in (below_in hb))
        replace H := H.kept hb'
        replace H2 := H2.kept hb'
        replace HL := HL.kept hb'
        replace hB := hB.trans (hb'.mono hB.size)
        clear hb hb'
        clear k0_0 k0_1 k0_2 k0_3 k0_4 k0_5 k0_6 k0_7 k0_8 k0_9 k0_10 k0_11 k0_12 k0_lt k1_0 k1_1 k1_2 k1_3 k1_4 k1_5 k1_6 k1_7 k1_8 k1_9 k1_10 k1_11 k1_12 k1_lt
        have ⟨k0_lt, k0_0, k0_1, k0_2, k0_3, k0_4, k0_5, k0_6, k0_7, k0_8, k0_9, k0_10, k0_11, k0_12⟩ := H
        have ⟨k1_lt, k1_0, k1_1, k1_2, k1_3, k1_4, k1_5, k1_6, k1_7, k1_8, k1_9, k1_10, k1_11, k1_12⟩ := H2
        have hz3 := hB.size
        have hw := H.lt
        go_upto_region 8 with fail
        go_cut [14, 15, 16] (fun p r g wx => ∃ b : Nat, p = .pointer (some ⟨b, 0, none⟩) ∧ r = .string (bs R) ∧ g = .int .i64 E ∧ HdIn V b wx ∧ HdIn a0 w.heap.size wx ∧ Below w.heap.size w wx)
        case first =>
          clear k0_0 k0_1 k0_2 k0_3 k0_4 k0_5 k0_6 k0_7 k0_8 k0_9 k0_10 k0_11 k0_12 k0_lt k1_0 k1_1 k1_2 k1_3 k1_4 k1_5 k1_6 k1_7 k1_8 k1_9 k1_10 k1_11 k1_12 k1_lt
          have wj : IntKind.i64.wrap ((j : Int) + 1) = (j : Int) + 1 := by rw [IntKind.wrap_i64]; omega
          have BA : Below v3.heap.size v3 (v3.alloc (.cells #[.int .u8 (bits .xor .u8 (byteAt L j) a3)] 5)).drew := (Below.alloc (Below.refl _ _) (Nat.le_refl _) _).drew
          have BB : Below v3.heap.size v3 ((v3.alloc (.cells #[.int .u8 (bits .xor .u8 (byteAt L j) a3)] 5)).alloc (.cells #[.int .i64 0, .int .i64 0, .int .i64 0, .int .i64 0, .int .i64 0, .int .i64 0, .int .u32 0, .int .u32 0, .int .u32 0, .int .u64 0, .int .u64 0, .int .u64 0, .int .u64 0] 25)).drew := (Below.alloc (Below.alloc (Below.refl _ _) (Nat.le_refl _) _) (by simp) _).drew
          have BD : Below v3.heap.size v3 ((v3.alloc (.cells #[.int .i64 0, .int .i64 0, .int .i64 0, .int .i64 0, .int .i64 0, .int .i64 0, .int .u32 0, .int .u32 0, .int .u32 0, .int .u64 0, .int .u64 0, .int .u64 0, .int .u64 0] 25)).alloc (.cells #[.int .u8 (bits .xor .u8 (byteAt L j) a3)] 5)).drew := (Below.alloc (Below.alloc (Below.refl _ _) (Nat.le_refl _) _) (by simp) _).drew
          have hjb : j ≤ 9223372036854775806 := by omega
          have hjc : j + 1 + (47 - j) ≤ 9223372036854775807 := by omega
          have hA := HL.kept BA
          have hB2 := HL.kept BB
          have hD := HL.kept BD
          refine wp_region_any (by kernel_rfl) ?_
          change wpAny _ _ _ _ _ _ _ (World.drew _)
          refine wpAny_take (i := 0) (v := .string (bs L)) rfl (by kernel_rfl) (by kernel_rfl) (by kernel_rfl) (fun _ _ _ h => h) (Or.inl ⟨by rfl, fun w => by go_simp⟩) ?_
          refine wpAny_take (i := 1) (v := .int .i64 j) rfl (by kernel_rfl) (by kernel_rfl) (by kernel_rfl) (fun _ _ _ h => h) (Or.inl ⟨by rfl, fun w => by go_simp⟩) ?_
          refine wpAny_take (i := 2) (v := .string (bs (cut L 0 j))) rfl (by kernel_rfl) (by kernel_rfl) (by kernel_rfl) (fun _ _ _ h => h) (Or.inl ⟨by rfl, fun w => by go_simp⟩) ?_
          refine wpAny_take (i := 3) (v := .string (bs L)) rfl (by kernel_rfl) (by kernel_rfl) (by kernel_rfl) (fun _ _ _ h => h) (Or.inl ⟨by rfl, fun w => by go_simp⟩) ?_
          refine wpAny_take (i := 4) (v := .int .i64 j) rfl (by kernel_rfl) (by kernel_rfl) (by kernel_rfl) (fun _ _ _ h => h) (Or.inl ⟨by rfl, fun w => by go_simp⟩) ?_
          refine wpAny_take (i := 5) (v := .int .u8 (byteAt L j)) rfl (by kernel_rfl) (by kernel_rfl) (by kernel_rfl) (fun _ _ _ h => h) (Or.inl ⟨by rfl, fun w => by go_simp⟩) ?_
          refine wpAny_take (i := 6) (v := .int .u8 a3) rfl (by kernel_rfl) (by kernel_rfl) (by kernel_rfl) (fun _ _ _ h => h) (Or.inl ⟨by rfl, fun w => by go_simp⟩) ?_
          refine wpAny_take (i := 7) (v := .int .u8 (bits .xor .u8 (byteAt L j) a3)) rfl (by kernel_rfl) (by kernel_rfl) (by kernel_rfl) (fun _ _ _ h => h) (Or.inl ⟨by rfl, fun w => by go_simp⟩) ?_
          refine wpAny_take (i := 11) (v := .string (bs L)) rfl (by kernel_rfl) (by kernel_rfl) (by kernel_rfl) (fun _ _ _ h => h) (Or.inl ⟨by rfl, fun w => by go_simp⟩) ?_
          refine wpAny_take (i := 12) (v := .int .i64 j) rfl (by kernel_rfl) (by kernel_rfl) (by kernel_rfl) (fun _ _ _ h => h) (Or.inl ⟨by rfl, fun w => by go_simp⟩) ?_
          refine wpAny_take (i := 13) (v := .int .i64 ((j : Int) + 1)) rfl (by kernel_rfl) (by kernel_rfl) (by kernel_rfl) (fun _ _ _ h => h) (Or.inl ⟨by rfl, fun w => by go_simp⟩) ?_
          refine wpAny_take (i := 14) (v := .string (bs (L.drop (j + 1)))) rfl (by kernel_rfl) (by kernel_rfl) (by kernel_rfl) (fun _ _ _ h => h) (Or.inl ⟨by rfl, fun w => by go_simp⟩) ?_
          refine wpAny_ready (rs := [8, 21]) (by kernel_rfl) (by simp) ?_
          refine AllReady.cons rfl (fun K hK => ?_) (AllReady.cons rfl (fun K hK => ?_) (AllReady.nil))
          · go_simp
            (refine hK _ _ ?_; clear hK K)
            have cv1 : (convert 37 9 (.slice (some ⟨v3.heap.size, 0, none⟩) 1 1)).run Tryd.prog (v3.alloc (.cells #[.int .u8 (bits .xor .u8 (byteAt L j) a3)] 5)).drew = .ok (.string (bs [b8 (bits .xor .u8 (byteAt L j) a3)])) (v3.alloc (.cells #[.int .u8 (bits .xor .u8 (byteAt L j) a3)] 5)).drew := one_byte _ v3.drew
            refine wpAny_ready (rs := [9, 21]) (by kernel_rfl) (by simp) ?_
            refine AllReady.cons rfl (fun K hK => ?_) (AllReady.cons rfl (fun K hK => ?_) (AllReady.nil))
            · go_simp
              (refine hK _ _ ?_; clear hK K)
              refine wpAny_take (i := 10) (v := .string (bs (cut L 0 j ++ [b8 (bits .xor .u8 (byteAt L j) a3)]))) rfl (by kernel_rfl) (by kernel_rfl) (by kernel_rfl) (fun _ _ _ h => h) (Or.inl ⟨by rfl, fun w => by go_simp⟩) ?_
              refine wpAny_take (i := 15) (v := .string (bs L')) rfl (by kernel_rfl) (by kernel_rfl) (by kernel_rfl) (fun _ _ _ h => h) (Or.inl ⟨by rfl, fun w => by go_simp⟩) ?_
              refine wpAny_ready (rs := [16, 21]) (by kernel_rfl) (by simp) ?_
              refine AllReady.cons rfl (fun K hK => ?_) (AllReady.cons rfl (fun K hK => ?_) (AllReady.nil))
              · go_simp
                go_wp2_with ((go_at_call 13; with_reducible refine (c5 _ (by exact hA)).mono ?_; rintro e w5 ⟨rfl, hb⟩))
                first | (refine hK _ _ ?_; clear hK K) | skip
                have hb5 : Below v3.heap.size v3 w5 := BA.trans (hb.mono (by simp <;> omega))
                have H5 := H.kept hb5
                have hB5 := hB.trans (hb5.mono hz3)
                refine wpAny_take (i := 17) (v := .tuple #[.agg #[.int .i64 V.leap, .int .i64 V.ver, .int .i64 V.mode, .int .i64 V.str, .int .i64 V.poll, .int .i64 V.prec, .int .u32 V.rdel, .int .u32 V.rdis, .int .u32 V.ref, .int .u64 V.reft, .int .u64 V.org, .int .u64 V.rcv, .int .u64 V.tx], .string (bs R), .int .i64 E]) rfl (by kernel_rfl) (by kernel_rfl) (by kernel_rfl) (fun _ _ _ h => h) (Or.inl ⟨by rfl, fun w => by go_simp⟩) ?_
                refine wpAny_take (i := 18) (v := .agg #[.int .i64 V.leap, .int .i64 V.ver, .int .i64 V.mode, .int .i64 V.str, .int .i64 V.poll, .int .i64 V.prec, .int .u32 V.rdel, .int .u32 V.rdis, .int .u32 V.ref, .int .u64 V.reft, .int .u64 V.org, .int .u64 V.rcv, .int .u64 V.tx]) rfl (by kernel_rfl) (by kernel_rfl) (by kernel_rfl) (fun _ _ _ h => h) (Or.inl ⟨by rfl, fun w => by go_simp⟩) ?_
                refine wpAny_take (i := 19) (v := .string (bs R)) rfl (by kernel_rfl) (by kernel_rfl) (by kernel_rfl) (fun _ _ _ h => h) (Or.inl ⟨by rfl, fun w => by go_simp⟩) ?_
                refine wpAny_take (i := 20) (v := .int .i64 E) rfl (by kernel_rfl) (by kernel_rfl) (by kernel_rfl) (fun _ _ _ h => h) (Or.inl ⟨by rfl, fun w => by go_simp⟩) ?_
                refine wpAny_ready (rs := [21]) (by kernel_rfl) (by simp) ?_
                refine AllReady.cons rfl (fun K hK => ?_) (AllReady.nil)
                · go_simp
                  (refine hK _ _ ?_; clear hK K)
                  refine wpAny_ready (rs := [22]) (by kernel_rfl) (by simp) ?_
                  refine AllReady.cons rfl (fun K hK => ?_) (AllReady.nil)
                  · go_simp
                    (refine hK _ _ ?_; clear hK K)
                    refine wpAny_take (i := 23) (v := .string (bs R)) rfl (by kernel_rfl) (by kernel_rfl) (by kernel_rfl) (fun _ _ _ h => h) (Or.inl ⟨by rfl, fun w => by go_simp⟩) ?_
                    refine wpAny_take (i := 24) (v := .int .i64 E) rfl (by kernel_rfl) (by kernel_rfl) (by kernel_rfl) (fun _ _ _ h => h) (Or.inl ⟨by rfl, fun w => by go_simp⟩) ?_
                    refine wpAny_done (by kernel_rfl) ?_ _
                    go_wp2_with fail
                    go_meet
                    exact ⟨w5.heap.size, rfl, rfl, rfl, HdIn.made V w5 _, H5.kept (below_one _ _), Below.alloc hB5 hB5.size _⟩
              · go_simp
                (refine hK _ _ ?_; clear hK K)
                refine wpAny_ready (rs := [16]) (by kernel_rfl) (by simp) ?_
                refine AllReady.cons rfl (fun K hK => ?_) (AllReady.nil)
                · go_simp
                  go_wp2_with ((go_at_call 13; with_reducible refine (c5 _ (by exact hB2)).mono ?_; rintro e w5 ⟨rfl, hb⟩))
                  first | (refine hK _ _ ?_; clear hK K) | skip
                  have hb5 : Below v3.heap.size v3 w5 := BB.trans (hb.mono (by simp <;> omega))
                  have H5 := H.kept hb5
                  have hB5 := hB.trans (hb5.mono hz3)
                  refine wpAny_take (i := 17) (v := .tuple #[.agg #[.int .i64 V.leap, .int .i64 V.ver, .int .i64 V.mode, .int .i64 V.str, .int .i64 V.poll, .int .i64 V.prec, .int .u32 V.rdel, .int .u32 V.rdis, .int .u32 V.ref, .int .u64 V.reft, .int .u64 V.org, .int .u64 V.rcv, .int .u64 V.tx], .string (bs R), .int .i64 E]) rfl (by kernel_rfl) (by kernel_rfl) (by kernel_rfl) (fun _ _ _ h => h) (Or.inl ⟨by rfl, fun w => by go_simp⟩) ?_
                  refine wpAny_take (i := 18) (v := .agg #[.int .i64 V.leap, .int .i64 V.ver, .int .i64 V.mode, .int .i64 V.str, .int .i64 V.poll, .int .i64 V.prec, .int .u32 V.rdel, .int .u32 V.rdis, .int .u32 V.ref, .int .u64 V.reft, .int .u64 V.org, .int .u64 V.rcv, .int .u64 V.tx]) rfl (by kernel_rfl) (by kernel_rfl) (by kernel_rfl) (fun _ _ _ h => h) (Or.inl ⟨by rfl, fun w => by go_simp⟩) ?_
                  refine wpAny_take (i := 19) (v := .string (bs R)) rfl (by kernel_rfl) (by kernel_rfl) (by kernel_rfl) (fun _ _ _ h => h) (Or.inl ⟨by rfl, fun w => by go_simp⟩) ?_
                  refine wpAny_take (i := 20) (v := .int .i64 E) rfl (by kernel_rfl) (by kernel_rfl) (by kernel_rfl) (fun _ _ _ h => h) (Or.inl ⟨by rfl, fun w => by go_simp⟩) ?_
                  have z5 : w5.heap[v3.heap.size + 1]? = some (.cells #[.int .i64 0, .int .i64 0, .int .i64 0, .int .i64 0, .int .i64 0, .int .i64 0, .int .u32 0, .int .u32 0, .int .u32 0, .int .u64 0, .int .u64 0, .int .u64 0, .int .u64 0] 25 (0, 0)) := by
                    refine (hb.block _ (by simp <;> omega)).trans ?_
                    exact heap_new _ _ (by simp)
                  have r0_ := (blk_at z5 0 (by simp)).1
                  have q0_ := (blk_at z5 0 (by simp)).2
                  have r1_ := (blk_at z5 1 (by simp)).1
                  have q1_ := (blk_at z5 1 (by simp)).2
                  have r2_ := (blk_at z5 2 (by simp)).1
                  have q2_ := (blk_at z5 2 (by simp)).2
                  have r3_ := (blk_at z5 3 (by simp)).1
                  have q3_ := (blk_at z5 3 (by simp)).2
                  have r4_ := (blk_at z5 4 (by simp)).1
                  have q4_ := (blk_at z5 4 (by simp)).2
                  have r5_ := (blk_at z5 5 (by simp)).1
                  have q5_ := (blk_at z5 5 (by simp)).2
                  have r6_ := (blk_at z5 6 (by simp)).1
                  have q6_ := (blk_at z5 6 (by simp)).2
                  have r7_ := (blk_at z5 7 (by simp)).1
                  have q7_ := (blk_at z5 7 (by simp)).2
                  have r8_ := (blk_at z5 8 (by simp)).1
                  have q8_ := (blk_at z5 8 (by simp)).2
                  have r9_ := (blk_at z5 9 (by simp)).1
                  have q9_ := (blk_at z5 9 (by simp)).2
                  have r10_ := (blk_at z5 10 (by simp)).1
                  have q10_ := (blk_at z5 10 (by simp)).2
                  have r11_ := (blk_at z5 11 (by simp)).1
                  have q11_ := (blk_at z5 11 (by simp)).2
                  have r12_ := (blk_at z5 12 (by simp)).1
                  have q12_ := (blk_at z5 12 (by simp)).2
                  simp only [List.getElem_toArray, List.getElem_cons_zero, List.getElem_cons_succ] at r0_ r1_ r2_ r3_ r4_ r5_ r6_ r7_ r8_ r9_ r10_ r11_ r12_
                  have Z5 := Lib.hid z5
                  clear z5
                  refine wpAny_ready (rs := [22]) (by kernel_rfl) (by simp) ?_
                  refine AllReady.cons rfl (fun K hK => ?_) (AllReady.nil)
                  · go_simp
                    (refine hK _ _ ?_; clear hK K)
                    clear r0_ q0_ r1_ q1_ r2_ q2_ r3_ q3_ r4_ q4_ r5_ q5_ r6_ q6_ r7_ q7_ r8_ q8_ r9_ q9_ r10_ q10_ r11_ q11_ r12_ q12_
                    refine wpAny_take (i := 23) (v := .string (bs R)) rfl (by kernel_rfl) (by kernel_rfl) (by kernel_rfl) (fun _ _ _ h => h) (Or.inl ⟨by rfl, fun w => by go_simp⟩) ?_
                    refine wpAny_take (i := 24) (v := .int .i64 E) rfl (by kernel_rfl) (by kernel_rfl) (by kernel_rfl) (fun _ _ _ h => h) (Or.inl ⟨by rfl, fun w => by go_simp⟩) ?_
                    refine wpAny_done (by kernel_rfl) ?_ _
                    go_wp2_with fail
                    go_meet
                    refine ⟨v3.heap.size + 1, rfl, rfl, rfl, HdIn.filled (blk_fill _ _ _ _ _ _ _ _ _ _ _ _ _ _ _ _ _ _ _ _ _ _ _ _ _ _ _ _ _ Z5.out), H5.keptB (below_fill w5 v3.heap.size (v3.heap.size + 1) (by omega) _ _ _ _ _ _ _ _ _ _ _ _ _) hw, hB5.trans ((below_fill w5 v3.heap.size (v3.heap.size + 1) (by omega) _ _ _ _ _ _ _ _ _ _ _ _ _).mono hz3)⟩
            · go_simp
              (refine hK _ _ ?_; clear hK K)
              have cv2 : (convert 37 9 (.slice (some ⟨v3.heap.size, 0, none⟩) 1 1)).run Tryd.prog ((v3.alloc (.cells #[.int .u8 (bits .xor .u8 (byteAt L j) a3)] 5)).alloc (.cells #[.int .i64 0, .int .i64 0, .int .i64 0, .int .i64 0, .int .i64 0, .int .i64 0, .int .u32 0, .int .u32 0, .int .u32 0, .int .u64 0, .int .u64 0, .int .u64 0, .int .u64 0] 25)).drew = .ok (.string (bs [b8 (bits .xor .u8 (byteAt L j) a3)])) ((v3.alloc (.cells #[.int .u8 (bits .xor .u8 (byteAt L j) a3)] 5)).alloc (.cells #[.int .i64 0, .int .i64 0, .int .i64 0, .int .i64 0, .int .i64 0, .int .i64 0, .int .u32 0, .int .u32 0, .int .u32 0, .int .u64 0, .int .u64 0, .int .u64 0, .int .u64 0] 25)).drew := one_byte_in _ _ _ (cell_of_one (heap_old v3 _ _ rfl))
              refine wpAny_ready (rs := [9]) (by kernel_rfl) (by simp) ?_
              refine AllReady.cons rfl (fun K hK => ?_) (AllReady.nil)
              · go_simp
                (refine hK _ _ ?_; clear hK K)
                refine wpAny_take (i := 10) (v := .string (bs (cut L 0 j ++ [b8 (bits .xor .u8 (byteAt L j) a3)]))) rfl (by kernel_rfl) (by kernel_rfl) (by kernel_rfl) (fun _ _ _ h => h) (Or.inl ⟨by rfl, fun w => by go_simp⟩) ?_
                refine wpAny_take (i := 15) (v := .string (bs L')) rfl (by kernel_rfl) (by kernel_rfl) (by kernel_rfl) (fun _ _ _ h => h) (Or.inl ⟨by rfl, fun w => by go_simp⟩) ?_
                refine wpAny_ready (rs := [16]) (by kernel_rfl) (by simp) ?_
                refine AllReady.cons rfl (fun K hK => ?_) (AllReady.nil)
                · go_simp
                  go_wp2_with ((go_at_call 13; with_reducible refine (c5 _ (by exact hB2)).mono ?_; rintro e w5 ⟨rfl, hb⟩))
                  first | (refine hK _ _ ?_; clear hK K) | skip
                  have hb5 : Below v3.heap.size v3 w5 := BB.trans (hb.mono (by simp <;> omega))
                  have H5 := H.kept hb5
                  have hB5 := hB.trans (hb5.mono hz3)
                  refine wpAny_take (i := 17) (v := .tuple #[.agg #[.int .i64 V.leap, .int .i64 V.ver, .int .i64 V.mode, .int .i64 V.str, .int .i64 V.poll, .int .i64 V.prec, .int .u32 V.rdel, .int .u32 V.rdis, .int .u32 V.ref, .int .u64 V.reft, .int .u64 V.org, .int .u64 V.rcv, .int .u64 V.tx], .string (bs R), .int .i64 E]) rfl (by kernel_rfl) (by kernel_rfl) (by kernel_rfl) (fun _ _ _ h => h) (Or.inl ⟨by rfl, fun w => by go_simp⟩) ?_
                  refine wpAny_take (i := 18) (v := .agg #[.int .i64 V.leap, .int .i64 V.ver, .int .i64 V.mode, .int .i64 V.str, .int .i64 V.poll, .int .i64 V.prec, .int .u32 V.rdel, .int .u32 V.rdis, .int .u32 V.ref, .int .u64 V.reft, .int .u64 V.org, .int .u64 V.rcv, .int .u64 V.tx]) rfl (by kernel_rfl) (by kernel_rfl) (by kernel_rfl) (fun _ _ _ h => h) (Or.inl ⟨by rfl, fun w => by go_simp⟩) ?_
                  refine wpAny_take (i := 19) (v := .string (bs R)) rfl (by kernel_rfl) (by kernel_rfl) (by kernel_rfl) (fun _ _ _ h => h) (Or.inl ⟨by rfl, fun w => by go_simp⟩) ?_
                  refine wpAny_take (i := 20) (v := .int .i64 E) rfl (by kernel_rfl) (by kernel_rfl) (by kernel_rfl) (fun _ _ _ h => h) (Or.inl ⟨by rfl, fun w => by go_simp⟩) ?_
                  have z5 : w5.heap[v3.heap.size + 1]? = some (.cells #[.int .i64 0, .int .i64 0, .int .i64 0, .int .i64 0, .int .i64 0, .int .i64 0, .int .u32 0, .int .u32 0, .int .u32 0, .int .u64 0, .int .u64 0, .int .u64 0, .int .u64 0] 25 (0, 0)) := by
                    refine (hb.block _ (by simp <;> omega)).trans ?_
                    exact heap_new _ _ (by simp)
                  have r0_ := (blk_at z5 0 (by simp)).1
                  have q0_ := (blk_at z5 0 (by simp)).2
                  have r1_ := (blk_at z5 1 (by simp)).1
                  have q1_ := (blk_at z5 1 (by simp)).2
                  have r2_ := (blk_at z5 2 (by simp)).1
                  have q2_ := (blk_at z5 2 (by simp)).2
                  have r3_ := (blk_at z5 3 (by simp)).1
                  have q3_ := (blk_at z5 3 (by simp)).2
                  have r4_ := (blk_at z5 4 (by simp)).1
                  have q4_ := (blk_at z5 4 (by simp)).2
                  have r5_ := (blk_at z5 5 (by simp)).1
                  have q5_ := (blk_at z5 5 (by simp)).2
                  have r6_ := (blk_at z5 6 (by simp)).1
                  have q6_ := (blk_at z5 6 (by simp)).2
                  have r7_ := (blk_at z5 7 (by simp)).1
                  have q7_ := (blk_at z5 7 (by simp)).2
                  have r8_ := (blk_at z5 8 (by simp)).1
                  have q8_ := (blk_at z5 8 (by simp)).2
                  have r9_ := (blk_at z5 9 (by simp)).1
                  have q9_ := (blk_at z5 9 (by simp)).2
                  have r10_ := (blk_at z5 10 (by simp)).1
                  have q10_ := (blk_at z5 10 (by simp)).2
                  have r11_ := (blk_at z5 11 (by simp)).1
                  have q11_ := (blk_at z5 11 (by simp)).2
                  have r12_ := (blk_at z5 12 (by simp)).1
                  have q12_ := (blk_at z5 12 (by simp)).2
                  simp only [List.getElem_toArray, List.getElem_cons_zero, List.getElem_cons_succ] at r0_ r1_ r2_ r3_ r4_ r5_ r6_ r7_ r8_ r9_ r10_ r11_ r12_
                  have Z5 := Lib.hid z5
                  clear z5
                  refine wpAny_ready (rs := [22]) (by kernel_rfl) (by simp) ?_
                  refine AllReady.cons rfl (fun K hK => ?_) (AllReady.nil)
                  · go_simp
                    (refine hK _ _ ?_; clear hK K)
                    clear r0_ q0_ r1_ q1_ r2_ q2_ r3_ q3_ r4_ q4_ r5_ q5_ r6_ q6_ r7_ q7_ r8_ q8_ r9_ q9_ r10_ q10_ r11_ q11_ r12_ q12_
                    refine wpAny_take (i := 23) (v := .string (bs R)) rfl (by kernel_rfl) (by kernel_rfl) (by kernel_rfl) (fun _ _ _ h => h) (Or.inl ⟨by rfl, fun w => by go_simp⟩) ?_
                    refine wpAny_take (i := 24) (v := .int .i64 E) rfl (by kernel_rfl) (by kernel_rfl) (by kernel_rfl) (fun _ _ _ h => h) (Or.inl ⟨by rfl, fun w => by go_simp⟩) ?_
                    refine wpAny_done (by kernel_rfl) ?_ _
                    go_wp2_with fail
                    go_meet
                    refine ⟨v3.heap.size + 1, rfl, rfl, rfl, HdIn.filled (blk_fill _ _ _ _ _ _ _ _ _ _ _ _ _ _ _ _ _ _ _ _ _ _ _ _ _ _ _ _ _ Z5.out), H5.keptB (below_fill w5 v3.heap.size (v3.heap.size + 1) (by omega) _ _ _ _ _ _ _ _ _ _ _ _ _) hw, hB5.trans ((below_fill w5 v3.heap.size (v3.heap.size + 1) (by omega) _ _ _ _ _ _ _ _ _ _ _ _ _).mono hz3)⟩
          · go_simp
            (refine hK _ _ ?_; clear hK K)
            refine wpAny_ready (rs := [8]) (by kernel_rfl) (by simp) ?_
            refine AllReady.cons rfl (fun K hK => ?_) (AllReady.nil)
            · go_simp
              (refine hK _ _ ?_; clear hK K)
              have cv3 : (convert 37 9 (.slice (some ⟨v3.heap.size + 1, 0, none⟩) 1 1)).run Tryd.prog ((v3.alloc (.cells #[.int .i64 0, .int .i64 0, .int .i64 0, .int .i64 0, .int .i64 0, .int .i64 0, .int .u32 0, .int .u32 0, .int .u32 0, .int .u64 0, .int .u64 0, .int .u64 0, .int .u64 0] 25)).alloc (.cells #[.int .u8 (bits .xor .u8 (byteAt L j) a3)] 5)).drew = .ok (.string (bs [b8 (bits .xor .u8 (byteAt L j) a3)])) ((v3.alloc (.cells #[.int .i64 0, .int .i64 0, .int .i64 0, .int .i64 0, .int .i64 0, .int .i64 0, .int .u32 0, .int .u32 0, .int .u32 0, .int .u64 0, .int .u64 0, .int .u64 0, .int .u64 0] 25)).alloc (.cells #[.int .u8 (bits .xor .u8 (byteAt L j) a3)] 5)).drew := one_byte_in _ _ _ (cell_of_one (heap_new (v3.alloc _) _ (by simp)))
              refine wpAny_ready (rs := [9]) (by kernel_rfl) (by simp) ?_
              refine AllReady.cons rfl (fun K hK => ?_) (AllReady.nil)
              · go_simp
                (refine hK _ _ ?_; clear hK K)
                refine wpAny_take (i := 10) (v := .string (bs (cut L 0 j ++ [b8 (bits .xor .u8 (byteAt L j) a3)]))) rfl (by kernel_rfl) (by kernel_rfl) (by kernel_rfl) (fun _ _ _ h => h) (Or.inl ⟨by rfl, fun w => by go_simp⟩) ?_
                refine wpAny_take (i := 15) (v := .string (bs L')) rfl (by kernel_rfl) (by kernel_rfl) (by kernel_rfl) (fun _ _ _ h => h) (Or.inl ⟨by rfl, fun w => by go_simp⟩) ?_
                refine wpAny_ready (rs := [16]) (by kernel_rfl) (by simp) ?_
                refine AllReady.cons rfl (fun K hK => ?_) (AllReady.nil)
                · go_simp
                  go_wp2_with ((go_at_call 13; with_reducible refine (c5 _ (by exact hD)).mono ?_; rintro e w5 ⟨rfl, hb⟩))
                  first | (refine hK _ _ ?_; clear hK K) | skip
                  have hb5 : Below v3.heap.size v3 w5 := BD.trans (hb.mono (by simp <;> omega))
                  have H5 := H.kept hb5
                  have hB5 := hB.trans (hb5.mono hz3)
                  refine wpAny_take (i := 17) (v := .tuple #[.agg #[.int .i64 V.leap, .int .i64 V.ver, .int .i64 V.mode, .int .i64 V.str, .int .i64 V.poll, .int .i64 V.prec, .int .u32 V.rdel, .int .u32 V.rdis, .int .u32 V.ref, .int .u64 V.reft, .int .u64 V.org, .int .u64 V.rcv, .int .u64 V.tx], .string (bs R), .int .i64 E]) rfl (by kernel_rfl) (by kernel_rfl) (by kernel_rfl) (fun _ _ _ h => h) (Or.inl ⟨by rfl, fun w => by go_simp⟩) ?_
                  refine wpAny_take (i := 18) (v := .agg #[.int .i64 V.leap, .int .i64 V.ver, .int .i64 V.mode, .int .i64 V.str, .int .i64 V.poll, .int .i64 V.prec, .int .u32 V.rdel, .int .u32 V.rdis, .int .u32 V.ref, .int .u64 V.reft, .int .u64 V.org, .int .u64 V.rcv, .int .u64 V.tx]) rfl (by kernel_rfl) (by kernel_rfl) (by kernel_rfl) (fun _ _ _ h => h) (Or.inl ⟨by rfl, fun w => by go_simp⟩) ?_
                  refine wpAny_take (i := 19) (v := .string (bs R)) rfl (by kernel_rfl) (by kernel_rfl) (by kernel_rfl) (fun _ _ _ h => h) (Or.inl ⟨by rfl, fun w => by go_simp⟩) ?_
                  refine wpAny_take (i := 20) (v := .int .i64 E) rfl (by kernel_rfl) (by kernel_rfl) (by kernel_rfl) (fun _ _ _ h => h) (Or.inl ⟨by rfl, fun w => by go_simp⟩) ?_
                  have z5 : w5.heap[v3.heap.size]? = some (.cells #[.int .i64 0, .int .i64 0, .int .i64 0, .int .i64 0, .int .i64 0, .int .i64 0, .int .u32 0, .int .u32 0, .int .u32 0, .int .u64 0, .int .u64 0, .int .u64 0, .int .u64 0] 25 (0, 0)) := by
                    refine (hb.block _ (by simp <;> omega)).trans ?_
                    exact heap_old _ _ _ rfl
                  have r0_ := (blk_at z5 0 (by simp)).1
                  have q0_ := (blk_at z5 0 (by simp)).2
                  have r1_ := (blk_at z5 1 (by simp)).1
                  have q1_ := (blk_at z5 1 (by simp)).2
                  have r2_ := (blk_at z5 2 (by simp)).1
                  have q2_ := (blk_at z5 2 (by simp)).2
                  have r3_ := (blk_at z5 3 (by simp)).1
                  have q3_ := (blk_at z5 3 (by simp)).2
                  have r4_ := (blk_at z5 4 (by simp)).1
                  have q4_ := (blk_at z5 4 (by simp)).2
                  have r5_ := (blk_at z5 5 (by simp)).1
                  have q5_ := (blk_at z5 5 (by simp)).2
                  have r6_ := (blk_at z5 6 (by simp)).1
                  have q6_ := (blk_at z5 6 (by simp)).2
                  have r7_ := (blk_at z5 7 (by simp)).1
                  have q7_ := (blk_at z5 7 (by simp)).2
                  have r8_ := (blk_at z5 8 (by simp)).1
                  have q8_ := (blk_at z5 8 (by simp)).2
                  have r9_ := (blk_at z5 9 (by simp)).1
                  have q9_ := (blk_at z5 9 (by simp)).2
                  have r10_ := (blk_at z5 10 (by simp)).1
                  have q10_ := (blk_at z5 10 (by simp)).2
                  have r11_ := (blk_at z5 11 (by simp)).1
                  have q11_ := (blk_at z5 11 (by simp)).2
                  have r12_ := (blk_at z5 12 (by simp)).1
                  have q12_ := (blk_at z5 12 (by simp)).2
                  simp only [List.getElem_toArray, List.getElem_cons_zero, List.getElem_cons_succ] at r0_ r1_ r2_ r3_ r4_ r5_ r6_ r7_ r8_ r9_ r10_ r11_ r12_
                  have Z5 := Lib.hid z5
                  clear z5
                  refine wpAny_ready (rs := [22]) (by kernel_rfl) (by simp) ?_
                  refine AllReady.cons rfl (fun K hK => ?_) (AllReady.nil)
                  · go_simp
                    (refine hK _ _ ?_; clear hK K)
                    clear r0_ q0_ r1_ q1_ r2_ q2_ r3_ q3_ r4_ q4_ r5_ q5_ r6_ q6_ r7_ q7_ r8_ q8_ r9_ q9_ r10_ q10_ r11_ q11_ r12_ q12_
                    refine wpAny_take (i := 23) (v := .string (bs R)) rfl (by kernel_rfl) (by kernel_rfl) (by kernel_rfl) (fun _ _ _ h => h) (Or.inl ⟨by rfl, fun w => by go_simp⟩) ?_
                    refine wpAny_take (i := 24) (v := .int .i64 E) rfl (by kernel_rfl) (by kernel_rfl) (by kernel_rfl) (fun _ _ _ h => h) (Or.inl ⟨by rfl, fun w => by go_simp⟩) ?_
                    refine wpAny_done (by kernel_rfl) ?_ _
                    go_wp2_with fail
                    go_meet
                    refine ⟨v3.heap.size, rfl, rfl, rfl, HdIn.filled (blk_fill _ _ _ _ _ _ _ _ _ _ _ _ _ _ _ _ _ _ _ _ _ _ _ _ _ _ _ _ _ Z5.out), H5.keptB (below_fill w5 v3.heap.size (v3.heap.size) (by omega) _ _ _ _ _ _ _ _ _ _ _ _ _) hw, hB5.trans ((below_fill w5 v3.heap.size (v3.heap.size) (by omega) _ _ _ _ _ _ _ _ _ _ _ _ _).mono hz3)⟩
        case rest =>
          obtain ⟨b, rfl, rfl, rfl, HV, H0, hB⟩ := hcut
          clear k0_0 k0_1 k0_2 k0_3 k0_4 k0_5 k0_6 k0_7 k0_8 k0_9 k0_10 k0_11 k0_12 k0_lt k1_0 k1_1 k1_2 k1_3 k1_4 k1_5 k1_6 k1_7 k1_8 k1_9 k1_10 k1_11 k1_12 k1_lt
          have ⟨x_lt, x0_, x1_, x2_, x3_, x4_, x5_, x6_, x7_, x8_, x9_, x10_, x11_, x12_⟩ := HV
          have ⟨y_lt, y0_, y1_, y2_, y3_, y4_, y5_, y6_, y7_, y8_, y9_, y10_, y11_, y12_⟩ := H0
          rcases hA with ⟨rfl, hne⟩ | ⟨rfl, rfl, rfl⟩
          · have hn := hdr_ne V a0 hne
            unfold Hd.val at hn
            clear hne
            go_wp2_with fail
            go_ret
            exact ⟨rfl, by have hz := hB.size; repeat' (first | (with_reducible exact Below.refl _ _) | (with_reducible assumption) | (with_reducible refine below_drewN ?_ _) | (with_reducible refine Below.drew ?_) | (with_reducible refine Below.setCell ?_ ?_ _) | (with_reducible refine Below.alloc ?_ ?_ _) | (simp; done) | (simp; omega) | omega)⟩
          · go_wp2_with fail
            go_ret
            exact ⟨rfl, by have hz := hB.size; repeat' (first | (with_reducible exact Below.refl _ _) | (with_reducible assumption) | (with_reducible refine below_drewN ?_ _) | (with_reducible refine Below.drew ?_) | (with_reducible refine Below.setCell ?_ ?_ _) | (with_reducible refine Below.alloc ?_ ?_ _) | (simp; done) | (simp; omega) | omega)⟩
  · have hm : a0.may = false := by simpa using hm
    obtain ⟨e1, e2⟩ := enc_no hm
    rw [e1, e2] at c1
    rw [hm] at c3
    clear e1 e2 hm t t1
    generalize bs a1.encS = S at *
    generalize a1.encE = E at *
    unfold Hd.val at *
    go_enter Tryd.func6, Tryd.ntmps6
    go_wp2_with fail
    (with_reducible refine (c1 _ (by first | (with_reducible exact HL) | (with_reducible exact HL.alloc _) | (with_reducible exact (HL.alloc _).alloc _))).mono ?_)
    rintro e v1 ⟨rfl, hb⟩
    have H := ((HdIn.made a0 w 25).kept (below_one _ _)).kept hb
    have H2 := (HdIn.made2 a1 w _ 25).kept hb
    have hb' : Below w.heap.size w v1 := by first | (with_reducible exact hb) | (with_reducible exact below_in hb) | (with_reducible exact below_in (below_in hb))
    replace HL := HL.kept hb'
    have hB := hb'
    clear hb hb'
    have ⟨k0_lt, k0_0, k0_1, k0_2, k0_3, k0_4, k0_5, k0_6, k0_7, k0_8, k0_9, k0_10, k0_11, k0_12⟩ := H
    have ⟨k1_lt, k1_0, k1_1, k1_2, k1_3, k1_4, k1_5, k1_6, k1_7, k1_8, k1_9, k1_10, k1_11, k1_12⟩ := H2
    go_wp2_with fail
    (with_reducible refine (c2 _ (by first | (with_reducible exact HL) | (with_reducible exact HL.alloc _) | (with_reducible exact (HL.alloc _).alloc _))).mono ?_)
    rintro e v2 ⟨rfl, hb⟩
    have hb' : Below v1.heap.size v1 v2 := by first | (with_reducible exact hb) | (with_reducible exact below_in hb) | (with_reducible exact below_in (below_in hb))
    replace H := H.kept hb'
    replace H2 := H2.kept hb'
    replace HL := HL.kept hb'
    replace hB := hB.trans (hb'.mono hB.size)
    clear hb hb'
    clear k0_0 k0_1 k0_2 k0_3 k0_4 k0_5 k0_6 k0_7 k0_8 k0_9 k0_10 k0_11 k0_12 k0_lt k1_0 k1_1 k1_2 k1_3 k1_4 k1_5 k1_6 k1_7 k1_8 k1_9 k1_10 k1_11 k1_12 k1_lt
    have ⟨k0_lt, k0_0, k0_1, k0_2, k0_3, k0_4, k0_5, k0_6, k0_7, k0_8, k0_9, k0_10, k0_11, k0_12⟩ := H
    have ⟨k1_lt, k1_0, k1_1, k1_2, k1_3, k1_4, k1_5, k1_6, k1_7, k1_8, k1_9, k1_10, k1_11, k1_12⟩ := H2
    go_wp2_with fail
    (with_reducible refine (cz _ (by first | (with_reducible exact HL) | (with_reducible exact HL.alloc _) | (with_reducible exact (HL.alloc _).alloc _))).mono ?_)
    rintro e v3 ⟨rfl, hb⟩
    have hb' : Below v2.heap.size v2 v3 := by first | (with_reducible exact hb) | (with_reducible exact below_in hb) | (with_reducible exact below_in (below_in hb))
    replace H := H.kept hb'
    replace H2 := H2.kept hb'
    replace HL := HL.kept hb'
    replace hB := hB.trans (hb'.mono hB.size)
    clear hb hb'
    clear k0_0 k0_1 k0_2 k0_3 k0_4 k0_5 k0_6 k0_7 k0_8 k0_9 k0_10 k0_11 k0_12 k0_lt k1_0 k1_1 k1_2 k1_3 k1_4 k1_5 k1_6 k1_7 k1_8 k1_9 k1_10 k1_11 k1_12 k1_lt
    have ⟨k0_lt, k0_0, k0_1, k0_2, k0_3, k0_4, k0_5, k0_6, k0_7, k0_8, k0_9, k0_10, k0_11, k0_12⟩ := H
    have ⟨k1_lt, k1_0, k1_1, k1_2, k1_3, k1_4, k1_5, k1_6, k1_7, k1_8, k1_9, k1_10, k1_11, k1_12⟩ := H2
    go_wp2_with fail
    (with_reducible refine (c3 _).mono ?_)
    rintro e v4 ⟨rfl, hb⟩
    have hb' : Below v3.heap.size v3 v4 := by first | (with_reducible exact hb) | (with_reducible exact below_in hb) | (with_reducible exact below_in (below_in hb))
    replace H := H.kept hb'
    replace H2 := H2.kept hb'
    replace HL := HL.kept hb'
    replace hB := hB.trans (hb'.mono hB.size)
    clear hb hb'
    clear k0_0 k0_1 k0_2 k0_3 k0_4 k0_5 k0_6 k0_7 k0_8 k0_9 k0_10 k0_11 k0_12 k0_lt k1_0 k1_1 k1_2 k1_3 k1_4 k1_5 k1_6 k1_7 k1_8 k1_9 k1_10 k1_11 k1_12 k1_lt
    have ⟨k0_lt, k0_0, k0_1, k0_2, k0_3, k0_4, k0_5, k0_6, k0_7, k0_8, k0_9, k0_10, k0_11, k0_12⟩ := H
    have ⟨k1_lt, k1_0, k1_1, k1_2, k1_3, k1_4, k1_5, k1_6, k1_7, k1_8, k1_9, k1_10, k1_11, k1_12⟩ := H2
    go_wp2_with fail
    go_ret
    exact ⟨rfl, by have hz := hB.size; repeat' (first | (with_reducible exact Below.refl _ _) | (with_reducible assumption) | (with_reducible refine below_drewN ?_ _) | (with_reducible refine Below.drew ?_) | (with_reducible refine Below.setCell ?_ ?_ _) | (with_reducible refine Below.alloc ?_ ?_ _) | (simp; done) | (simp; omega) | omega)⟩
set_option maxRecDepth 100000 in
theorem lifted (os : Os) (started : os.Started) (H : Type) (enc : TypeId × Value → H) :
    ReturnsInHanded {} Tryd.checked os 6 .any (fun w args => (Rows.headerApartSpec.pre enc Tryd.prog Tryd.f6 [] false w args ∧ laidMetH Tryd.prog Rows.headerApartRow.laid w) ∧ sizedMet enc Tryd.prog Tryd.f6 (OpenSpec.ofChange Rows.headerApartSpec) false w args) (Rows.headerApartSpec.post enc Tryd.prog Tryd.f6 false true false false) := by
  refine returnsInHanded_of_change_and (C := Tryd.checked) (X := fun w _ => laidMetH Tryd.prog Rows.headerApartRow.laid w) (fun _ _ _ hh h => h.of_heap hh) own started (by kernel_rfl) Tryd.func6
    (ChangeSpec.witness_shaped (enc := enc) (C := Tryd.checked) (os := os) (X := fun w _ => laidMetH Tryd.prog Rows.headerApartRow.laid w) false (World.doorLaid Tryd.prog 400 os) #[.agg #[.int .i64 0, .int .i64 0, .int .i64 0, .int .i64 0, .int .i64 0, .int .i64 0, .int .u32 0, .int .u32 0, .int .u32 0, .int .u64 0, .int .u64 0, .int .u64 0, .int .u64 0], .agg #[.int .i64 0, .int .i64 0, .int .i64 0, .int .i64 0, .int .i64 0, .int .i64 0, .int .u32 0, .int .u32 0, .int .u32 0, .int .u64 0, .int .u64 0, .int .u64 0, .int .u64 0], .int .u8 0, .int .u8 0] 8 rfl (World.shaped_of_RefB (by kernel_rfl) (by kernel_rfl)) (by kernel_rfl) (by kernel_rfl) (by kernel_rfl) (door_met os _)) ?_
  intro W base args ds gs before hval0 hW _ _ hL _
  have hval : ∀ (j : Nat) t v, Tryd.f6.params[j]? = some t → args[j]? = some v → Value.okWide Tryd.prog W .any base t v := hval0
  have hW' := hW
  obtain ⟨p, q, hA0, hV, rfl, hfz, hnd⟩ := hW
  have hA : DataW.TrodAll enc Tryd.prog W 0 (fun _ => true) true Tryd.f6.params.toList args.toList ds p := hA0
  rw [Tryd.params6] at hA hval
  obtain ⟨v0, vs0, d0, ds0, p0, q0, hargs, rfl, rfl, h0, r0⟩ := trodAll_cons hA
  obtain ⟨v1, vs1, d1, ds1, p1, q1, rfl, rfl, rfl, h1, r1⟩ := trodAll_cons r0
  obtain ⟨v2, vs2, d2, ds2, p2, q2, rfl, rfl, rfl, h2, r2⟩ := trodAll_cons r1
  obtain ⟨v3, vs3, d3, ds3, p3, q3, rfl, rfl, rfl, h3, r3⟩ := trodAll_cons r2
  obtain ⟨rfl, rfl, rfl⟩ := trodAll_nil r3
  obtain rfl : args = #[v0, v1, v2, v3] := by cases args; simp_all
  obtain ⟨rfl, rfl⟩ := trodVars_none hV
  have k0 := h0
  have lt0 : ∀ x ∈ p0, x.block < W.heap.size := by obtain ⟨m, hm⟩ := k0; exact DataW.trod_lt m _ _ _ hm
  obtain ⟨a0, rfl, w0⟩ := open_hdr (hval 0 25 v0 rfl rfl) h0
  have k1 := h1
  have lt1 : ∀ x ∈ p1, x.block < W.heap.size := by obtain ⟨m, hm⟩ := k1; exact DataW.trod_lt m _ _ _ hm
  obtain ⟨a1, rfl, w1⟩ := open_hdr (hval 1 25 v1 rfl rfl) h1
  obtain ⟨a2, rfl, rfl, rfl, w2⟩ := open_int Tryd.underlying5 (hval 2 5 v2 rfl rfl) h2
  obtain ⟨a3, rfl, rfl, rfl, w3⟩ := open_int Tryd.underlying5 (hval 3 5 v3 rfl rfl) h3
  clear hA0 hval0
  refine (walk a0 a1 a2 a3 W w0 w1 w2 w3 (of_laid hL)).mono fun e W' ⟨he, bel⟩ => ?_
  subst he
  exact ⟨_, rfl, _, _, _, [], _, [], hW', trodAll_mk1 (shut_bool Tryd.underlying4 _), (trodAll_cons_mk (Below.trod laidOut (by kernel_rfl) (of_decide_eq_true (by kernel_rfl)) k0 bel lt0) (trodAll_cons_mk (Below.trod laidOut (by kernel_rfl) (of_decide_eq_true (by kernel_rfl)) k1 bel lt1) (trodAll_cons_mk (shut_int Tryd.underlying5 w2) (trodAll_cons_mk (shut_int Tryd.underlying5 w3) trodAll_mk0)))), rfl, bel.frame _, fun h => by cases h⟩

theorem over : Rows.headerApartRow.holds Tryd.pinned (OpenSpec.ofChange Rows.headerApartSpec) :=
  OpenClaim.holds_of_wide 6 Tryd.f6 rfl rfl rfl rfl rfl rfl rfl ⟨rfl, rfl, rfl, rfl, rfl⟩ rfl rfl rfl rfl rfl (by kernel_rfl) Tryd.func6 (by kernel_rfl)
    (of_decide_eq_true (by kernel_rfl)) (by unfold Func.isWrapper; first | (rw [if_pos (by decide +kernel)]; kernel_rfl) | (rw [if_neg (by decide +kernel)]; exact ⟨rfl, rfl⟩))
    (fun os started H enc _ => lifted os started H enc)

theorem proved : Rows.HeaderApartCardSaid :=
  Claim7.holds_tied_plain_at .later [] [.data] true Rows.headerApartCard.stood.harness false
    over (fun _ h => by cases h) (by kernel_rfl) (fun _ h => by cases h) headerApart_row_tie rfl ⟨rfl, rfl⟩ (by kernel_rfl) rfl
    (fun f fn hf hfn => by
      obtain rfl : f = 6 := Option.some.inj ((show Tryd.prog.funcNamed "analemma/analemmalaw05.HeaderApart" = some 6 by kernel_rfl).symm.trans hf) |>.symm
      obtain rfl : fn = Tryd.f6 := (Option.some.inj (Tryd.func6.symm.trans hfn)).symm
      exact ⟨by kernel_rfl, fun j t ht => by
        rw [Tryd.params6] at ht
        have hm : t ∈ [25, 25, 5, 5] := by simpa using Array.mem_of_getElem? ht
        have hall : ([25, 25, 5, 5].all fun u => !Tryd.prog.wantsStandIn u) = true := by kernel_rfl
        exact (show Tryd.prog.wantsStandIn t = false by simpa using List.all_eq_true.1 hall t hm)⟩)
    (by kernel_rfl)
end Go.Proofs.YthfgjhffcbehbaaDoor.HeaderApart
