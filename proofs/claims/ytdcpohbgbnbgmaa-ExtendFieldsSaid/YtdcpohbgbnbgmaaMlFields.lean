/- ExtendFields: for every list of fields within the document's bound and every three numbers, a field that is put ahead of others is walked first; bytes that are cut off are no fields, or no more. (What is beyond the bound is let go by the statement itself.) No condition. -/
import Derived.Test.YtdcpohbgbnbgmaaEdY
import Derived.Test.YtdcpohbgbnbgmaaEdZ
import Derived.Test.YtdcpohbgbnbgmaaHdD
import Derived.WalkKit
import Derived.WalkSpells
import Derived.WalkLawsBesides
import Derived.Lib.Hide
import Derived.Handy
import Derived.ProofKit
import Derived.OpenShut
import Derived.ShutString
import Derived.ChangeOld
import Derived.Below
import Derived.OwnWalk
import Derived.Laws.AppendOwnNone
namespace Go.Proofs.Ytdcpohbgbnbgmaa.ExtendFields
open Go.Proofs.Ytdcpohbgbnbgmaa.W
open Go.ChangeShapes Go.WideShapes Go.ChangeAt Go.RowKit
open Go.ChangeMaps (open_string shut_string)
set_option linter.unusedVariables false
theorem own : ownKnob Try.prog.godebug = none := by kernel_rfl
theorem laidOut : laidOutB Try.prog = true := by kernel_rfl
set_option linter.unusedSimpArgs false
def xs (k : Nat) : List UInt8 := List.replicate k 120
theorem xs_next (k : Nat) : xs k ++ [120] = xs (k + 1) := by unfold xs; rw [show ([120] : List UInt8) = List.replicate 1 120 from rfl, List.replicate_append_replicate]
theorem xs_length (k : Nat) : (xs k).length = k := by unfold xs; simp
theorem walk_of_join {l : List W.Fd} {m : List UInt8} (h : jnOk l m = true) : walkL (fdJoin l ++ m) = some (l, m) := by
  unfold jnOk at h
  simp only [Bool.and_eq_true] at h
  obtain ⟨_, _, h⟩ := h
  cases hw : walkL (fdJoin l ++ m) with
  | none => rw [hw] at h; cases h
  | some p =>
    rw [hw] at h
    simp only [Bool.and_eq_true] at h
    obtain ⟨h1, h2⟩ := h
    have e1 : p.2 = m := by simpa using h1
    have e2 := (fdSame_iff p.1 l).1 h2
    rw [← e1, ← e2]
/-- A field ahead of what may be joined. -/
theorem ahead (f : W.Fd) (l : List W.Fd) (hf : fdOk f = true) (h24 : 24 ≤ f.body.length) (h : jnOk l [] = true) : jnOk (f :: l) [] = true ∧ walkL (fdEnc f ++ fdJoin l) = some (f :: l, []) := by
  have hw := walk_of_join h
  rw [List.append_nil] at hw
  have hw2 := walk_cons f (fdJoin l) hf (by omega)
  rw [hw] at hw2
  simp only [] at hw2
  refine ⟨?_, hw2⟩
  unfold jnOk at h ⊢
  simp only [Bool.and_eq_true] at h
  obtain ⟨h1, h2, _⟩ := h
  have e : fdJoin (f :: l) = fdEnc f ++ fdJoin l := by simp [fdJoin]
  rw [e, List.append_nil, hw2]
  simp only [List.all_cons, hf, h1, h2, Bool.and_true, Bool.true_and]
  simp
  exact (fdSame_iff _ _).2 rfl
theorem cut_no_more (s : List UInt8) (c : Nat) (l : List W.Fd) (m : List UInt8) (h : walkL s = some (l, m)) : (wkE (s.take c) = 0 ∧ (wkL (s.take c)).length ≤ l.length) ∨ wkE (s.take c) = 60 := by
  cases hx : walkL (s.take c) with
  | none => exact .inr (wk_no hx).2.2
  | some p =>
    obtain ⟨x, y⟩ := p
    obtain ⟨e1, _, e3⟩ := wk_yes hx
    refine .inl ⟨e3, ?_⟩
    rw [e1]
    exact wk_take _ _ _ _ _ _ _ _ h hx
theorem FdIn.news {w : World} {ad : Addr} {c : Nat} {l : List W.Fd} (h : FdIn w (.slice (some ad) l.length c) l) : ∀ j u, (fdCells l)[j]? = some u → w.cell? (ad.add j) = some u := by
  rcases h with ⟨a, c', _, _, rfl⟩ | ⟨b, off, cap, hv, hb, hc⟩
  · intro j u hu; simp [fdCells] at hu
  · simp only [Value.slice.injEq, Option.some.injEq] at hv
    obtain ⟨rfl, _, _⟩ := hv
    intro j u hu
    have hj : j < l.length * 2 := by
      have := (List.getElem?_eq_some_iff.1 hu).1
      rwa [fdCells_length] at this
    rw [Addr.add_lit]
    obtain ⟨c1, c2⟩ := hc (j / 2) (by omega)
    obtain ⟨d1, d2⟩ := fdCells_at l (j / 2) (by omega)
    rcases Nat.mod_two_eq_zero_or_one j with h0 | h0
    · have e : j = j / 2 * 2 := by omega
      rw [← e] at c1 d1
      rw [c1, ← hu, d1]
    · have e : j = j / 2 * 2 + 1 := by omega
      rw [Nat.add_assoc, ← e] at c2
      rw [← e] at d2
      rw [c2, ← hu, d2]
theorem info_FdE : (Try.prog.info? 44).map (fun i => (i.zero, i.size, i.bytes)) = some (some (.agg #[.int .i64 0, .string ByteArray.empty]), 2, 24) := by kernel_rfl
theorem fd_eqlE (x : W.Fd) (w : World) : (binOp .eql 44 x.val x.val).run Try.prog w = .ok (.bool true) w := by
  cases x with | mk t p =>
  unfold Fd.val
  simp [go_sem]
theorem fdCells_one (l : List W.Fd) : ∀ u ∈ fdCells l, u.oneCell' = true := by
  intro u hu
  unfold fdCells at hu
  obtain ⟨f, _, hf⟩ := List.mem_flatMap.1 hu
  simp at hf
  rcases hf with rfl | rfl <;> rfl
theorem ownsRow_one (w : World) (base : Nat) (hb : base ≤ w.heap.size) (x : W.Fd) (e : TypeId) : (w.alloc (.cells #[.int .i64 x.ty, .string (bs x.body)] e)).ownsRow base e 2 (.slice (some ⟨w.heap.size, 0, none⟩) 1 1) 1 (fdCells [x]) :=
  ⟨by simp [fdCells], .inr ⟨w.heap.size, 1, _, rfl, hb, heap_alloc_new w _, Nat.le_refl _, by unfold maxLen; omega, by simp, by simp [fdCells]⟩⟩
set_option maxHeartbeats 6400000 in
theorem walk (v0 : Value) (l : List W.Fd) (a1 a2 a3 : Int) (w : World) (iv : FdIn w v0 l) (ht : FdTyped l) (hb : ∀ f ∈ l, f.body.length ≤ maxLen) (hl : l.length ≤ maxLen) (w1 : (Lit.int .u16 a1).wf = true) (w2 : (Lit.int .u8 a2).wf = true) (w3 : (Lit.int .u16 a3).wf = true) :
    Calls Try.prog 6 #[v0, .int .u16 a1, .int .u8 a2, .int .u16 a3] w fun e w' => e = .returned (.bool true) ∧ Below w.heap.size w w' := by
  have q1 := bounds_u16 w1
  have q2 := bounds_u8 w2
  have q3 := bounds_u16 w3
  clear w1 w2 w3
  have cz := xshown_any
  unfold maxLen at hl hb
  have ch := heavy_any l (by omega) (fun f hf => by have := hb f hf; omega) v0 w iv
  obtain ⟨x0, p0, rfl⟩ := iv.slice
  by_cases hh : 4096 < fdHeavy l
  · rw [decide_eq_true hh] at ch
    clear iv
    go_enter Try.func6, Try.ntmps6
    go_wp2_with fail
    (with_reducible refine ch.mono ?_)
    rintro e w' ⟨rfl, rfl⟩
    go_wp2_with fail
    (with_reducible refine (cz _).mono ?_)
    rintro e w2 ⟨rfl, hB⟩
    go_wp2_with fail
    go_ret
    exact ⟨rfl, hB⟩
  · rw [decide_eq_false hh] at ch
    obtain ⟨h1, h2⟩ := fdHeavy_join l (by omega)
    have c1 := ejoin_any l [] ht (by omega) (by simp; omega)
    obtain ⟨n, hn⟩ : ∃ n : Nat, (24 + 4 * (a2 % 20)).toNat = n := ⟨_, rfl⟩
    have n0 : 24 ≤ n ∧ n ≤ 100 ∧ n % 4 = 0 := by omega
    have wa : IntKind.i64.wrap a2 = a2 := by rw [IntKind.wrap_i64]; omega
    have em : a2.tmod 20 = a2 % 20 := Int.tmod_eq_emod_of_nonneg (by omega)
    have en : 24 + 4 * (a2 % 20) = n := by omega
    have z1 : (ByteArray.mk #[120]) = bs [120] := rfl
    have z0 : (ByteArray.mk #[]) = bs [] := rfl
    have hxl := xs_length
    clear hn
    go_enter Try.func6, Try.ntmps6
    go_wp2_with fail
    (with_reducible refine ch.mono ?_)
    rintro e w' ⟨rfl, rfl⟩
    go_wp2_with fail
    (with_reducible refine (cz _).mono ?_)
    rintro e w2 ⟨rfl, hB⟩
    replace iv := iv.kept hB
    go_wp2_with fail
    (with_reducible refine (c1 _ _ iv).mono ?_)
    rintro e w3 ⟨rfl, hb3⟩
    replace iv := iv.kept hb3
    replace hB := hB.trans (hb3.mono hB.size)
    clear hb3
    go_wp2_with fail
    have h2n : ¬ 4096 < fdHeavy l := hh
    go_loop [11, 12] (fun s i => ∃ j : Nat, j ≤ n ∧ i = .int .i64 j ∧ s = .string (bs (xs j))) (fun _ i => n - (intOf i).toNat)
    case atStart => exact ⟨0, Nat.zero_le _, rfl, rfl⟩
    case round =>
      obtain ⟨j, hj, rfl, rfl⟩ := hrel
      by_cases hlt : j < n
      · have hb : (xs j).length + 1 ≤ 9223372036854775807 := by rw [xs_length]; omega
        have hn := xs_next j
        have HN := Lib.hid hn
        clear hn
        go_wp2_with fail
        go_round
        case rel => exact ⟨j + 1, by omega, by go_num, by simp [bs_append, HN.out]⟩
        case measure => simp [intOf]; omega
      · obtain rfl : j = n := by omega
        generalize hX : xs j = X at *
        have hXl : X.length = j := by rw [← hX, xs_length]
        clear hX hxl hlt
        have hfo : fdOk ⟨a1, X⟩ = true := by unfold fdOk; simp; omega
        have hft : FdTyped (⟨a1, X⟩ :: l) := by
          intro g hg
          rcases List.mem_cons.1 hg with rfl | hg
          · show -9223372036854775808 ≤ a1 ∧ a1 ≤ 9223372036854775807
            omega
          · exact ht g hg
        have hjc : fdJoin (⟨a1, X⟩ :: l) = fdEnc ⟨a1, X⟩ ++ fdJoin l := by simp [fdJoin]
        have hjl : (fdJoin (⟨a1, X⟩ :: l)).length = (fdJoin l).length + j + 4 := by
          rw [hjc, List.length_append, fdEnc_length]
          show X.length + 4 + _ = _
          omega
        have wa1 : IntKind.i64.wrap a1 = a1 := by rw [IntKind.wrap_i64]; omega
        have c2 := ejoin_any (⟨a1, X⟩ :: l) [] hft (by simp; omega) (by rw [hjl]; simp; omega)
        obtain ⟨i0, hi0, hz0, hz1, hz2⟩ := info_parts info_FdE
        have own0 := ownsRow_one (w3.alloc (.cells #[.int .i64 a1, .string (bs X)] 44)) w3.heap.size (by simp) ⟨a1, X⟩ 44
        rw [show (w3.alloc (.cells #[.int .i64 a1, .string (bs X)] 44)).heap.size = w3.heap.size + 1 by simp] at own0
        have hsz3 := hB.size
        have bel2 : Below w3.heap.size w3 ((w3.alloc (.cells #[.int .i64 a1, .string (bs X)] 44)).alloc (.cells #[.int .i64 a1, .string (bs X)] 44)) := Below.alloc (Below.alloc (Below.refl _ _) (Nat.le_refl _) _) (by simp) _
        have iv2 := iv.kept bel2
        have F2 : ((w3.alloc (.cells #[.int .i64 a1, .string (bs X)] 44)).alloc (.cells #[.int .i64 a1, .string (bs X)] 44)).heap[w3.heap.size]? = some (.cells #[.int .i64 a1, .string (bs X)] 44 (0, 0)) := by
          rw [Below.heap_alloc _ _ _ (by simp)]
          exact heap_alloc_new _ _
        have key : ∀ (v' : Value) (w4 : World), w4.ownsRow w3.heap.size 44 2 v' (1 + l.length) (fdCells [⟨a1, X⟩] ++ fdCells l) → Below w3.heap.size w3 w4 → w4.heap[w3.heap.size]? = some (.cells #[.int .i64 a1, .string (bs X)] 44 (0, 0)) →
            FdIn w4 v' (⟨a1, X⟩ :: l) ∧ Below w.heap.size w w4 ∧ (w3.heap.size < w4.heap.size) := by
          intro v' w4 ho hb4 hF
          refine ⟨FdIn.own (base := w3.heap.size) (e := 44) ?_, hB.trans (hb4.mono hsz3), (Array.getElem?_eq_some_iff.1 hF).1⟩
          rw [List.length_cons, Nat.add_comm]
          exact ho
        cases x0 with
        | none =>
          have hnil : l = [] ∧ p0 = 0 := by
            rcases iv2 with ⟨a, c, hv, hc, rfl⟩ | ⟨b, off, cap, hv, _, _⟩
            · simp at hv
              exact ⟨rfl, by rw [hv.2]; exact hc hv.1.symm⟩
            · simp at hv
          obtain ⟨hle, rfl⟩ := hnil
          have hl0 : l.length = 0 := by rw [hle]; rfl
          have i4 : FdIn ((w3.alloc (.cells #[.int .i64 a1, .string (bs X)] 44)).alloc (.cells #[.int .i64 a1, .string (bs X)] 44)) (.slice (some ⟨w3.heap.size + 1, 0, none⟩) 1 1) (⟨a1, X⟩ :: l) := by
            have := FdIn.own (l := [⟨a1, X⟩]) own0
            rw [hle]
            exact this
          have hB4 := hB.trans (bel2.mono hsz3)
          have F4 := F2
          have hlt4 := lt_of_block F4
          clear hle iv2 F2 key bel2
          go_wp2_with (at_builtin; refine wpList_append_own_none _ rfl _ _ 23 rfl w3.heap.size 44 i0 2 Try.underlying23 hi0 _ 1 (fdCells [⟨a1, X⟩]) rfl own0 rfl ?_)
          clear own0
          cases hj : jnOk l []
          · obtain ⟨e1, e2⟩ := jn_no hj
            rw [e1, e2]
            go_wp2_with fail
            (with_reducible refine (c2 _ _ i4).mono ?_)
            rintro e w5 ⟨rfl, hb5⟩
            replace hB4 := hB4.trans (hb5.mono hB4.size)
            go_wp2_with fail
            go_ret
            exact ⟨rfl, hB4⟩
          · obtain ⟨e1, e2⟩ := jn_yes hj
            obtain ⟨j1, j2⟩ := ahead ⟨a1, X⟩ l hfo (by show 24 ≤ X.length; omega) hj
            obtain ⟨e3, e4⟩ := jn_yes j1
            rw [List.append_nil] at e1 e3
            rw [e3, e4] at c2
            rw [e1, e2]
            have hTl := hjl
            rw [hjc] at c2 hTl
            obtain ⟨f1, f2, f3⟩ := wk_yes j2
            have c3 := ewalk_any (fdEnc ⟨a1, X⟩ ++ fdJoin l) (by rw [hTl]; omega)
            rw [f1, f2, f3] at c3
            have hcut : cut (fdEnc ⟨a1, X⟩ ++ fdJoin l) 4 (4 + j) = X := by
              rw [cut_append_left _ _ _ _ (by rw [fdEnc_length]; show 4 + j ≤ X.length + 4; omega)]
              unfold fdEnc cut
              simp only []
              rw [List.drop_append_of_le_length (by rw [List.length_append, be_length, be_length]; omega), List.drop_of_length_le (by rw [List.length_append, be_length, be_length]; omega), List.nil_append, List.take_of_length_le (by omega)]
            generalize fdEnc ⟨a1, X⟩ ++ fdJoin l = T at *
            obtain ⟨q, hq⟩ : ∃ q : Nat, (a3 % (T.length : Int)).toNat = q := ⟨_, rfl⟩
            have hTp : 0 < (T.length : Int) := by omega
            have hq0 := Int.emod_nonneg a3 (show (T.length : Int) ≠ 0 by omega)
            have hq1 := Int.emod_lt_of_pos a3 hTp
            have hqe : a3 % (T.length : Int) = q := by omega
            have hqt : a3.tmod (T.length : Int) = q := by rw [Int.tmod_eq_emod_of_nonneg (by omega)]; omega
            have c4 := ewalk_any (cut T 0 q) (by rw [cut_len]; omega)
            have hct : cut T 0 q = T.take q := by unfold cut; rw [List.drop_zero, Nat.sub_zero]
            have hx := cut_no_more T q _ _ j2
            rw [← hct] at hx
            have g1t : ∀ w, (Instr.slice 9 (.string (bs T)) (some (.int .i64 4)) (some (.int .i64 (4 + (j : Int)))) none).run Try.prog w = .ok (.string (bs X)) w := by
              intro w
              have := slice_at T 4 (4 + j) (by omega) (by omega) w
              rw [hcut] at this
              exact this
            have g2t := fun w => slice_to T q (by omega) w
            generalize cut T 0 q = T2 at *
            have wa3 : IntKind.i64.wrap a3 = a3 := by rw [IntKind.wrap_i64]; omega
            clear hq hct hcut f1 f2 f3 e1 e2 e3 e4 j1 j2 hj
            generalize fdJoin l = J at *
            have hqe2 : a3 % ((J.length : Int) + (j : Int) + 4) = q := by
              have h : (T.length : Int) = (J.length : Int) + j + 4 := by omega
              rw [← h]
              exact hqe
            have hqe3 : a3.tmod ((J.length : Int) + (j : Int) + 4) = q := by
              have h : (T.length : Int) = (J.length : Int) + j + 4 := by omega
              rw [← h]
              exact hqt
            go_wp2_with fail
            (with_reducible refine (c2 _ _ i4).mono ?_)
            rintro e w5 ⟨rfl, hb5⟩
            replace F4 := (hb5.block _ hlt4).trans F4
            replace hB4 := hB4.trans (hb5.mono hB4.size)
            have hlt5 := lt_of_block F4
            clear hb5 i4 hlt4
            go_wp2_with fail
            (with_reducible refine (c3 _).mono ?_)
            rintro e w6 ⟨v6, rfl, ho6, hb6⟩
            have i6 := FdIn.own ho6
            replace F4 := (hb6.block _ hlt5).trans F4
            replace hB4 := hB4.trans (hb6.mono hB4.size)
            have hlt6 := lt_of_block F4
            clear ho6 hb6 hlt5
            go_wp2_with fail
            (with_reducible refine (c4 _).mono ?_)
            rintro e w7 ⟨v7, rfl, ho7, hb7⟩
            obtain ⟨x7, p7, rfl⟩ := (FdIn.own ho7).slice
            replace i6 := i6.kept hb7
            replace F4 := (hb7.block _ hlt6).trans F4
            replace hB4 := hB4.trans (hb7.mono hB4.size)
            clear ho7 hb7 hlt6
            rcases i6 with ⟨_, _, _, _, hnil⟩ | ⟨b6, o6, p6, rfl, hb6l, hc6⟩
            · cases hnil
            · obtain ⟨g1, g2⟩ := hc6 0 (by simp)
              simp only [Nat.zero_mul, Nat.add_zero, List.getD_cons_zero, Nat.zero_add] at g1 g2
              have k1 := (blk_at F4 0 (by simp)).1
              have k2 := (blk_at F4 1 (by simp)).1
              simp only [List.getElem_toArray, List.getElem_cons_zero, List.getElem_cons_succ] at k1 k2
              clear hc6
              have he := fd_eqlE ⟨a1, X⟩
              unfold Fd.val at he
              simp only [] at he
              rcases hx with ⟨x1, x2⟩ | x1
              · rw [x1]
                rw [List.length_cons] at x2
                have x2i : ((wkL T2).length : Int) ≤ (l.length : Int) + 1 := by omega
                go_wp2_with fail
                go_quiet (fail)
                go_wp2_with fail
                go_ret
                exact ⟨by first | rfl | exact ret1b (by simp <;> omega), by repeat' (first | (with_reducible exact Below.refl _ _) | (with_reducible assumption) | (with_reducible refine below_drewN ?_ _) | (with_reducible refine Below.drew ?_) | (with_reducible refine Below.setCell ?_ ?_ _) | (with_reducible refine Below.alloc ?_ ?_ _) | (simp; done) | (simp; omega) | omega)⟩
              · rw [x1]
                go_wp2_with fail
                go_quiet (fail)
                go_wp2_with fail
                go_ret
                exact ⟨by first | rfl | exact ret1b (by simp <;> omega), by repeat' (first | (with_reducible exact Below.refl _ _) | (with_reducible assumption) | (with_reducible refine below_drewN ?_ _) | (with_reducible refine Below.drew ?_) | (with_reducible refine Below.setCell ?_ ?_ _) | (with_reducible refine Below.alloc ?_ ?_ _) | (simp; done) | (simp; omega) | omega)⟩
        | some ad =>
          have hnews := FdIn.news iv2
          go_wp2_with (at_builtin; refine wpList_append_own _ rfl _ _ 23 rfl w3.heap.size 44 i0 _ 2 24 Try.underlying23 hi0 hz0 hz1 hz2 rfl (by decide) _ 1 (fdCells [⟨a1, X⟩]) rfl own0 ad l.length p0 (fdCells l) rfl (fdCells_length l) hnews (fdCells_one l) (by unfold maxLen; omega) (by omega) (by simp; omega) ?_; intro v' w4 hown4 hgrow _)
          change World.grownBy _ w4 (some (w3.heap.size + 1)) at hgrow
          have F4 := (hgrow.block w3.heap.size (by simp; omega) (by simp)).trans F2
          obtain ⟨i4, hB4, hlt4⟩ := key v' w4 hown4 (bel2.grown hgrow (by simp; omega) (fun g hg => by simp at hg; omega)) F4
          clear hgrow hown4 hnews own0 iv2 F2 key bel2
          cases hj : jnOk l []
          · obtain ⟨e1, e2⟩ := jn_no hj
            rw [e1, e2]
            go_wp2_with fail
            (with_reducible refine (c2 _ _ i4).mono ?_)
            rintro e w5 ⟨rfl, hb5⟩
            replace hB4 := hB4.trans (hb5.mono hB4.size)
            go_wp2_with fail
            go_ret
            exact ⟨rfl, hB4⟩
          · obtain ⟨e1, e2⟩ := jn_yes hj
            obtain ⟨j1, j2⟩ := ahead ⟨a1, X⟩ l hfo (by show 24 ≤ X.length; omega) hj
            obtain ⟨e3, e4⟩ := jn_yes j1
            rw [List.append_nil] at e1 e3
            rw [e3, e4] at c2
            rw [e1, e2]
            have hTl := hjl
            rw [hjc] at c2 hTl
            obtain ⟨f1, f2, f3⟩ := wk_yes j2
            have c3 := ewalk_any (fdEnc ⟨a1, X⟩ ++ fdJoin l) (by rw [hTl]; omega)
            rw [f1, f2, f3] at c3
            have hcut : cut (fdEnc ⟨a1, X⟩ ++ fdJoin l) 4 (4 + j) = X := by
              rw [cut_append_left _ _ _ _ (by rw [fdEnc_length]; show 4 + j ≤ X.length + 4; omega)]
              unfold fdEnc cut
              simp only []
              rw [List.drop_append_of_le_length (by rw [List.length_append, be_length, be_length]; omega), List.drop_of_length_le (by rw [List.length_append, be_length, be_length]; omega), List.nil_append, List.take_of_length_le (by omega)]
            generalize fdEnc ⟨a1, X⟩ ++ fdJoin l = T at *
            obtain ⟨q, hq⟩ : ∃ q : Nat, (a3 % (T.length : Int)).toNat = q := ⟨_, rfl⟩
            have hTp : 0 < (T.length : Int) := by omega
            have hq0 := Int.emod_nonneg a3 (show (T.length : Int) ≠ 0 by omega)
            have hq1 := Int.emod_lt_of_pos a3 hTp
            have hqe : a3 % (T.length : Int) = q := by omega
            have hqt : a3.tmod (T.length : Int) = q := by rw [Int.tmod_eq_emod_of_nonneg (by omega)]; omega
            have c4 := ewalk_any (cut T 0 q) (by rw [cut_len]; omega)
            have hct : cut T 0 q = T.take q := by unfold cut; rw [List.drop_zero, Nat.sub_zero]
            have hx := cut_no_more T q _ _ j2
            rw [← hct] at hx
            have g1t : ∀ w, (Instr.slice 9 (.string (bs T)) (some (.int .i64 4)) (some (.int .i64 (4 + (j : Int)))) none).run Try.prog w = .ok (.string (bs X)) w := by
              intro w
              have := slice_at T 4 (4 + j) (by omega) (by omega) w
              rw [hcut] at this
              exact this
            have g2t := fun w => slice_to T q (by omega) w
            generalize cut T 0 q = T2 at *
            have wa3 : IntKind.i64.wrap a3 = a3 := by rw [IntKind.wrap_i64]; omega
            clear hq hct hcut f1 f2 f3 e1 e2 e3 e4 j1 j2 hj
            generalize fdJoin l = J at *
            have hqe2 : a3 % ((J.length : Int) + (j : Int) + 4) = q := by
              have h : (T.length : Int) = (J.length : Int) + j + 4 := by omega
              rw [← h]
              exact hqe
            have hqe3 : a3.tmod ((J.length : Int) + (j : Int) + 4) = q := by
              have h : (T.length : Int) = (J.length : Int) + j + 4 := by omega
              rw [← h]
              exact hqt
            go_wp2_with fail
            (with_reducible refine (c2 _ _ i4).mono ?_)
            rintro e w5 ⟨rfl, hb5⟩
            replace F4 := (hb5.block _ hlt4).trans F4
            replace hB4 := hB4.trans (hb5.mono hB4.size)
            have hlt5 := lt_of_block F4
            clear hb5 i4 hlt4
            go_wp2_with fail
            (with_reducible refine (c3 _).mono ?_)
            rintro e w6 ⟨v6, rfl, ho6, hb6⟩
            have i6 := FdIn.own ho6
            replace F4 := (hb6.block _ hlt5).trans F4
            replace hB4 := hB4.trans (hb6.mono hB4.size)
            have hlt6 := lt_of_block F4
            clear ho6 hb6 hlt5
            go_wp2_with fail
            (with_reducible refine (c4 _).mono ?_)
            rintro e w7 ⟨v7, rfl, ho7, hb7⟩
            obtain ⟨x7, p7, rfl⟩ := (FdIn.own ho7).slice
            replace i6 := i6.kept hb7
            replace F4 := (hb7.block _ hlt6).trans F4
            replace hB4 := hB4.trans (hb7.mono hB4.size)
            clear ho7 hb7 hlt6
            rcases i6 with ⟨_, _, _, _, hnil⟩ | ⟨b6, o6, p6, rfl, hb6l, hc6⟩
            · cases hnil
            · obtain ⟨g1, g2⟩ := hc6 0 (by simp)
              simp only [Nat.zero_mul, Nat.add_zero, List.getD_cons_zero, Nat.zero_add] at g1 g2
              have k1 := (blk_at F4 0 (by simp)).1
              have k2 := (blk_at F4 1 (by simp)).1
              simp only [List.getElem_toArray, List.getElem_cons_zero, List.getElem_cons_succ] at k1 k2
              clear hc6
              have he := fd_eqlE ⟨a1, X⟩
              unfold Fd.val at he
              simp only [] at he
              rcases hx with ⟨x1, x2⟩ | x1
              · rw [x1]
                rw [List.length_cons] at x2
                have x2i : ((wkL T2).length : Int) ≤ (l.length : Int) + 1 := by omega
                go_wp2_with fail
                go_quiet (fail)
                go_wp2_with fail
                go_ret
                exact ⟨by first | rfl | exact ret1b (by simp <;> omega), by repeat' (first | (with_reducible exact Below.refl _ _) | (with_reducible assumption) | (with_reducible refine below_drewN ?_ _) | (with_reducible refine Below.drew ?_) | (with_reducible refine Below.setCell ?_ ?_ _) | (with_reducible refine Below.alloc ?_ ?_ _) | (simp; done) | (simp; omega) | omega)⟩
              · rw [x1]
                go_wp2_with fail
                go_quiet (fail)
                go_wp2_with fail
                go_ret
                exact ⟨by first | rfl | exact ret1b (by simp <;> omega), by repeat' (first | (with_reducible exact Below.refl _ _) | (with_reducible assumption) | (with_reducible refine below_drewN ?_ _) | (with_reducible refine Below.drew ?_) | (with_reducible refine Below.setCell ?_ ?_ _) | (with_reducible refine Below.alloc ?_ ?_ _) | (simp; done) | (simp; omega) | omega)⟩
set_option maxRecDepth 100000 in
theorem lifted (os : Os) (started : os.Started) (H : Type) (enc : TypeId × Value → H) :
    ReturnsInHanded {} Try.checked os 6 .any (Rows.extendFieldsSpec.pre6 enc Try.prog Try.f6 Rows.extendFieldsRow.domain false) (Rows.extendFieldsSpec.post enc Try.prog Try.f6 false true false false) := by
  refine returnsInHanded_of_change (C := Try.checked) own started (by kernel_rfl) Try.func6
    (ChangeSpec.witness6 (enc := enc) (C := Try.checked) false ⟨#[], #[.slice none 0 0, .int .u16 0, .int .u8 0, .int .u16 0], []⟩ 8 (by kernel_rfl) (by kernel_rfl) (by kernel_rfl) (by kernel_rfl)) ?_
  intro W base args ds gs before hval0 hW hcnd _
  have hval : ∀ (j : Nat) t v, Try.f6.params[j]? = some t → args[j]? = some v → Value.okWide Try.prog W .any base t v := hval0
  have hW' := hW
  obtain ⟨p, q, hA0, hV, rfl, hfz, hnd⟩ := hW
  have hA : DataW.TrodAll enc Try.prog W 0 (fun _ => true) true Try.f6.params.toList args.toList ds p := hA0
  rw [Try.params6] at hA hval
  obtain ⟨v0, vs0, d0, ds0, p0, q0, hargs, rfl, rfl, h0, r0⟩ := trodAll_cons hA
  obtain ⟨v1, vs1, d1, ds1, p1, q1, rfl, rfl, rfl, h1, r1⟩ := trodAll_cons r0
  obtain ⟨v2, vs2, d2, ds2, p2, q2, rfl, rfl, rfl, h2, r2⟩ := trodAll_cons r1
  obtain ⟨v3, vs3, d3, ds3, p3, q3, rfl, rfl, rfl, h3, r3⟩ := trodAll_cons r2
  obtain ⟨rfl, rfl, rfl⟩ := trodAll_nil r3
  obtain rfl : args = #[v0, v1, v2, v3] := by cases args; simp_all
  obtain ⟨rfl, rfl⟩ := trodVars_none hV
  have k0 := h0
  have lt0 : ∀ x ∈ p0, x.block < W.heap.size := by obtain ⟨m, hm⟩ := k0; exact DataW.trod_lt m _ _ _ hm
  obtain ⟨a0, len0, cap0, rfl⟩ := okWide_slice Try.underlying23 (hval 0 23 v0 rfl rfl)
  obtain ⟨z0, w0a, w0b, w0c, w0d⟩ : ∃ l, FdIn W (.slice a0 len0 cap0) l ∧ FdTyped l ∧ (∀ f ∈ l, f.body.length ≤ maxLen) ∧ l.length ≤ maxLen := by
    obtain ⟨fuel, hf⟩ := h0
    obtain ⟨v, l, hcs, h1, h2, h3, h4⟩ := open_fds hf
    simp [Value.cells] at hcs
    subst hcs
    exact ⟨l, h1, h2, h3, h4⟩
  obtain ⟨a1, rfl, rfl, rfl, w1⟩ := open_int Try.underlying42 (hval 1 42 v1 rfl rfl) h1
  obtain ⟨a2, rfl, rfl, rfl, w2⟩ := open_int Try.underlying5 (hval 2 5 v2 rfl rfl) h2
  obtain ⟨a3, rfl, rfl, rfl, w3⟩ := open_int Try.underlying42 (hval 3 42 v3 rfl rfl) h3
  clear hA0 hval0
  refine (walk (.slice a0 len0 cap0) z0 a1 a2 a3 W w0a w0b w0c w0d w1 w2 w3).mono fun e W' ⟨he, bel⟩ => ?_
  subst he
  exact ⟨_, rfl, _, _, _, [], _, [], hW', trodAll_mk1 (shut_bool Try.underlying4 _), (trodAll_cons_mk (Below.trod laidOut (by kernel_rfl) (of_decide_eq_true (by kernel_rfl)) k0 bel lt0) (trodAll_cons_mk (shut_int Try.underlying42 w1) (trodAll_cons_mk (shut_int Try.underlying5 w2) (trodAll_cons_mk (shut_int Try.underlying42 w3) trodAll_mk0)))), rfl, bel.frame _, fun h => by cases h⟩

theorem over : Rows.extendFieldsRow.holds Try.pinned (OpenSpec.ofChange Rows.extendFieldsSpec) :=
  OpenClaim.holds_of_wide 6 Try.f6 rfl rfl rfl rfl rfl rfl rfl ⟨rfl, rfl, rfl, rfl, rfl⟩ rfl rfl rfl rfl rfl (by kernel_rfl) Try.func6 (by kernel_rfl)
    (of_decide_eq_true (by kernel_rfl)) (by unfold Func.isWrapper; first | (rw [if_pos (by decide +kernel)]; kernel_rfl) | (rw [if_neg (by decide +kernel)]; exact ⟨rfl, rfl⟩))
    (fun os started H enc _ => lifted os started H enc)

theorem proved : Rows.ExtendFieldsSaid := over
end Go.Proofs.Ytdcpohbgbnbgmaa.ExtendFields
