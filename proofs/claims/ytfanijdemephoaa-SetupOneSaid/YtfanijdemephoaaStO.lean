/- Layer 10's own code, walked: what is standard, at fault, called. -/
import Derived.Test.YtfanijdemephoaaStN
import Derived.Test.YtfanijdemephoaaStH
import Derived.Test.YtfanijdemephoaaRowS
import Derived.Handy
import Derived.Laws.AppendOwn
namespace Go.Proofs.Ytfanijdemephoaa.W
open Go.RowKit Go.Sort
set_option linter.unusedVariables false
set_option linter.unusedSimpArgs false
set_option maxRecDepth 100000 in
set_option maxHeartbeats 3200000 in
theorem gstd_any (w : World) : Calls Try.prog 14 #[] w fun e w' => e = .returned stdC.val ∧ Below w.heap.size w w' := by
  go_enter Try.func14, Try.ntmps14
  go_wp2_with fail
  exact bodyPost_ret (v := stdC.val) (by simp [results, Try.results14, go_sem, stdC, Cf.val]) rfl ⟨rfl, by repeat' (first | (with_reducible exact Below.refl _ _) | (with_reducible assumption) | (with_reducible refine below_drewN ?_ _) | (with_reducible refine Below.drew ?_) | (with_reducible refine Below.setCell ?_ ?_ _) | (with_reducible refine Below.alloc ?_ ?_ _) | (simp; done) | (simp; omega) | omega)⟩
theorem row_cellN {w : World} {b b1 b8 i : Nat} (h : w.heap[b]? = some (.cells (rowV b1 b8).toArray 47 (0, 0))) : w.cell? ⟨b, i, none⟩ = (rowV b1 b8)[i]? := by simp [World.cell?, h]
/-- A configuration in its block, the fields in theirs. -/
structure FldIn (c : Cf) (x b b1 b8 : Nat) (w : World) : Prop where
  cf : w.heap[x]? = some (.cells (cfCells c) 24 (0, 0))
  row : w.heap[b]? = some (.cells (rowV b1 b8).toArray 47 (0, 0))
  step : w.heap[b1]? = some (.cells stepC 59 (0, 0))
  min : w.heap[b8]? = some (.cells minC 65 (0, 0))
theorem FldIn.kept {c : Cf} {x b b1 b8 : Nat} {w w' : World} (h : FldIn c x b b1 b8 w) (hk : ∀ k, k < w.heap.size → k = x ∨ k = b ∨ k = b1 ∨ k = b8 → w'.heap[k]? = w.heap[k]?) : FldIn c x b b1 b8 w' :=
  ⟨(hk _ (Array.getElem?_eq_some_iff.1 h.cf).1 (.inl rfl)).trans h.cf, (hk _ (Array.getElem?_eq_some_iff.1 h.row).1 (.inr (.inl rfl))).trans h.row, (hk _ (Array.getElem?_eq_some_iff.1 h.step).1 (.inr (.inr (.inl rfl)))).trans h.step, (hk _ (Array.getElem?_eq_some_iff.1 h.min).1 (.inr (.inr (.inr rfl)))).trans h.min⟩
theorem FldIn.below {c : Cf} {x b b1 b8 : Nat} {w w' : World} (h : FldIn c x b b1 b8 w) (hb : Below w.heap.size w w') : FldIn c x b b1 b8 w' := h.kept fun k hk _ => hb.block k hk
set_option maxRecDepth 100000 in
set_option maxHeartbeats 6400000 in
theorem gsname_any (k : Int) (k0 : -9223372036854775808 ≤ k) (k1 : k ≤ 9223372036854775807) (w : World) : Calls Try.prog 8 #[.int .i64 k] w fun e w' => e = .returned (.string (nameV k)) ∧ Below w.heap.size w w' := by
  by_cases hk : 1 ≤ k ∧ k ≤ 12
  · obtain ⟨i, rfl⟩ : ∃ i : Nat, k = (i : Int) + 1 := ⟨(k - 1).toNat, by omega⟩
    have i12 : i < 12 := by omega
    clear k0 k1
    by_cases h7 : i < 7
    · have y := fun b1 b8 => gname_rowF b1 b8 i h7
      generalize nameV ((i : Int) + 1) = nv at *
      go_enter Try.func8, Try.ntmps8
      go_wp2_with fail
      (with_reducible refine (gfields_any _).mono ?_)
      rintro e w1 ⟨b, b1, b8, rfl, hB, q1, q8, qb, hb, h1, h8⟩
      have hc := (row_cellN (i := i) hb).trans (rowF b1 b8 i h7)
      have y := y b1 b8 w1
      have HB := Lib.hid hB
      clear hb h1 h8 hB q1 q8 qb
      have g1 : ¬ ((i : Int) + 1 < 1) := by omega
      have g2 : ¬ (12 < (i : Int) + 1) := by omega
      generalize agV b1 b8 i = ag at *
      go_wp2_with fail
      (with_reducible refine y.mono ?_)
      rintro e w2 ⟨rfl, hB2⟩
      have hBf := HB.out.trans (hB2.mono HB.out.size)
      clear hB2
      go_wp2_with fail
      go_ret
      exact ⟨rfl, hBf⟩
    · have y := fun b1 b8 => gname_rowW b1 b8 i (by omega) i12
      generalize nameV ((i : Int) + 1) = nv at *
      go_enter Try.func8, Try.ntmps8
      go_wp2_with fail
      (with_reducible refine (gfields_any _).mono ?_)
      rintro e w1 ⟨b, b1, b8, rfl, hB, q1, q8, qb, hb, h1, h8⟩
      have hc := (row_cellN (i := i) hb).trans (rowW b1 b8 i (by omega) i12)
      have y := y b1 b8 w1
      have HB := Lib.hid hB
      clear hb h1 h8 hB q1 q8 qb
      have g1 : ¬ ((i : Int) + 1 < 1) := by omega
      have g2 : ¬ (12 < (i : Int) + 1) := by omega
      generalize agV b1 b8 i = ag at *
      go_wp2_with fail
      (with_reducible refine y.mono ?_)
      rintro e w2 ⟨rfl, hB2⟩
      have hBf := HB.out.trans (hB2.mono HB.out.size)
      clear hB2
      go_wp2_with fail
      go_ret
      exact ⟨rfl, hBf⟩
  · rw [name_no k (by omega)]
    clear k0 k1
    by_cases h1 : k < 1
    · clear hk
      go_enter Try.func8, Try.ntmps8
      go_wp2_with fail
      (with_reducible refine (gfields_any _).mono ?_)
      rintro e w1 ⟨b, b1, b8, rfl, hB, q1, q8, qb, hb, h1, h8⟩
      have HB := Lib.hid hB
      clear hb h1 h8 hB q1 q8 qb
      go_wp2_with fail
      go_ret
      exact ⟨rfl, HB.out⟩
    · have h2 : 12 < k := by omega
      clear hk
      go_enter Try.func8, Try.ntmps8
      go_wp2_with fail
      (with_reducible refine (gfields_any _).mono ?_)
      rintro e w1 ⟨b, b1, b8, rfl, hB, q1, q8, qb, hb, hb1, h8⟩
      have HB := Lib.hid hB
      clear hb hb1 h8 hB q1 q8 qb
      go_wp2_with fail
      go_ret
      exact ⟨rfl, HB.out⟩
set_option maxRecDepth 100000 in
set_option maxHeartbeats 12800000 in
theorem gfaults_any (c : Cf) (t : c.Typed) (w : World) : Calls Try.prog 11 #[c.val] w fun e w' => ∃ v, e = .returned v ∧ SlAt (fun b => w.heap.size ≤ b ∧ b < w'.heap.size) 1 (oneE .i64) w' v (upTo c 12) ∧ Below w.heap.size w w' := by
  obtain ⟨i0, hi0, hz0, hz1, hz2⟩ := info_parts info_int
  have hA : Below w.heap.size w (w.alloc (.cells (cfCells c) 24)) := Below.alloc (Below.refl _ _) (Nat.le_refl _) _
  have hx := heap_alloc_new w (.cells (cfCells c) 24)
  have T := Lib.hid t
  clear t
  unfold Cf.val at *
  go_enter Try.func11, Try.ntmps11
  go_wp2_with fail
  (with_reducible refine (gfields_any _).mono ?_)
  rintro e w1 ⟨b, b1, b8, rfl, hB1, q1, q8, qb, hb, h1, h8⟩
  have F1 : FldIn c w.heap.size b b1 b8 w1 := ⟨(hB1.block _ (Array.getElem?_eq_some_iff.1 hx).1).trans hx, hb, h1, h8⟩
  have hBw := hA.trans (hB1.mono hA.size)
  clear hb h1 h8 hB1 q1 q8 qb hA hx
  have own0 : w1.ownsRow w1.heap.size 3 1 (.slice none 0 0) (upTo c 0).length ((upTo c 0).flatMap (oneE .i64)) := World.ownsRow_nil _ _ _ _
  have hR := Below.refl w1.heap.size w1
  have HH := Lib.hid (And.intro F1 hBw)
  clear F1 hBw
  go_wp2_with fail
  go_loopw [3, 8] (fun v i wr => ∃ n : Nat, n ≤ 12 ∧ i = .int .i64 (n : Int) ∧ wr.ownsRow w1.heap.size 3 1 v (upTo c n).length ((upTo c n).flatMap (oneE .i64)) ∧ Below w1.heap.size w1 wr) (fun _ i _ => 12 - (intOf i).toNat)
  case atStart => exact ⟨0, by omega, rfl, own0, hR⟩
  case round =>
    obtain ⟨n, hn, rfl, own, hB⟩ := hrel
    have F := HH.out.1.below hB
    have hcf := F.cf
    unfold cfCells at hcf
    obtain ⟨a0, a1, a2, a3, a4, a5, a6, a7, a8, a9, a10, a11⟩ := twelve_atK hcf
    clear own0 hR hcf
    by_cases hlt : n < 12
    · have i1 : (n : Int) < 12 := by omega
      have hnx := upTo_next c n
      have hy := True.intro
      by_cases h7 : n < 7
      · by_cases he : fieldE c (n + 1) = 0
        · have y := gfault_rowF c T.out b1 b8 n h7 wr F.step F.min
          have hc := (row_cellN (i := n) F.row).trans (rowF b1 b8 n h7)
          generalize agV b1 b8 n = ag at *
          rw [if_pos he] at hnx
          rw [he] at y
          have HN := Lib.hid hnx
          have HF := Lib.hid F
          clear hnx he F h7 hy
          unfold Cf.val at y
          go_wp2_with fail
          (with_reducible refine y.mono ?_)
          rintro e w2 ⟨rfl, hB2⟩
          have hb2 := hB.trans (hB2.mono hB.size)
          have own2 := own_kept own hB2
          clear y own hB2
          go_wp2_with fail
          go_roundw
          case rel => exact ⟨n + 1, by omega, by go_num, by rw [HN.out]; exact own2, hb2⟩
          case measure => simp [intOf]; omega
        · have y := gfault_rowF c T.out b1 b8 n h7 wr F.step F.min
          have hc := (row_cellN (i := n) F.row).trans (rowF b1 b8 n h7)
          generalize agV b1 b8 n = ag at *
          rw [if_neg he] at hnx
          have HN := Lib.hid hnx
          have HF := Lib.hid F
          have hln := upTo_length c n
          clear hnx F h7 hy
          generalize fieldE c (n + 1) = ev at *
          have heb : (ev != 0) = true := bne_iff_ne.2 he
          unfold Cf.val at y
          go_wp2_with fail
          (with_reducible refine y.mono ?_)
          rintro e w2 ⟨rfl, hB2⟩
          have hb2 := hB.trans (hB2.mono hB.size)
          have own2 := own_kept own hB2
          have z1 := hb2.size
          clear y own hB2
          go_wp2_with (at_builtin; refine wpList_append_own _ rfl _ _ 36 rfl w1.heap.size 3 i0 _ 1 8 Try.underlying36 hi0 hz0 hz1 hz2 rfl (by decide) _ _ _ rfl (own2.alloc _) ⟨w2.heap.size, 0, none⟩ 1 1 [.int .i64 ((n : Int) + 1)] rfl rfl (new_row1 _ _ _) (by simp [Value.oneCell']) (by unfold maxLen; omega) (by omega) (by rw [World.size_alloc]; omega) ?_; intro v' w3 hown3 hgrow _)
          have hb3 : Below w1.heap.size w1 w3 := (hb2.alloc (by omega) _).grown hgrow (by rw [World.size_alloc]; omega) (fun g hg => by have := (own2.lt g hg).1; omega)
          have own3 : w3.ownsRow w1.heap.size 3 1 v' (upTo c n ++ [((n : Int) + 1)]).length ((upTo c n ++ [((n : Int) + 1)]).flatMap (oneE .i64)) := by
            rw [List.length_append, List.flatMap_append]
            exact hown3
          clear hgrow hown3 own2
          go_wp2_with fail
          go_roundw
          case rel => exact ⟨n + 1, by omega, by go_num, by rw [HN.out]; exact own3, hb3⟩
          case measure => simp [intOf]; omega
      · by_cases he : fieldE c (n + 1) = 0
        · have y := gfault_rowW c T.out b1 b8 n (by omega) hlt wr F.step F.min
          have hc := (row_cellN (i := n) F.row).trans (rowW b1 b8 n (by omega) hlt)
          generalize agV b1 b8 n = ag at *
          rw [if_pos he] at hnx
          rw [he] at y
          have HN := Lib.hid hnx
          have HF := Lib.hid F
          clear hnx he F h7 hy
          unfold Cf.val at y
          go_wp2_with fail
          (with_reducible refine y.mono ?_)
          rintro e w2 ⟨rfl, hB2⟩
          have hb2 := hB.trans (hB2.mono hB.size)
          have own2 := own_kept own hB2
          clear y own hB2
          go_wp2_with fail
          go_roundw
          case rel => exact ⟨n + 1, by omega, by go_num, by rw [HN.out]; exact own2, hb2⟩
          case measure => simp [intOf]; omega
        · have y := gfault_rowW c T.out b1 b8 n (by omega) hlt wr F.step F.min
          have hc := (row_cellN (i := n) F.row).trans (rowW b1 b8 n (by omega) hlt)
          generalize agV b1 b8 n = ag at *
          rw [if_neg he] at hnx
          have HN := Lib.hid hnx
          have HF := Lib.hid F
          have hln := upTo_length c n
          clear hnx F h7 hy
          generalize fieldE c (n + 1) = ev at *
          have heb : (ev != 0) = true := bne_iff_ne.2 he
          unfold Cf.val at y
          go_wp2_with fail
          (with_reducible refine y.mono ?_)
          rintro e w2 ⟨rfl, hB2⟩
          have hb2 := hB.trans (hB2.mono hB.size)
          have own2 := own_kept own hB2
          have z1 := hb2.size
          clear y own hB2
          go_wp2_with (at_builtin; refine wpList_append_own _ rfl _ _ 36 rfl w1.heap.size 3 i0 _ 1 8 Try.underlying36 hi0 hz0 hz1 hz2 rfl (by decide) _ _ _ rfl (own2.alloc _) ⟨w2.heap.size, 0, none⟩ 1 1 [.int .i64 ((n : Int) + 1)] rfl rfl (new_row1 _ _ _) (by simp [Value.oneCell']) (by unfold maxLen; omega) (by omega) (by rw [World.size_alloc]; omega) ?_; intro v' w3 hown3 hgrow _)
          have hb3 : Below w1.heap.size w1 w3 := (hb2.alloc (by omega) _).grown hgrow (by rw [World.size_alloc]; omega) (fun g hg => by have := (own2.lt g hg).1; omega)
          have own3 : w3.ownsRow w1.heap.size 3 1 v' (upTo c n ++ [((n : Int) + 1)]).length ((upTo c n ++ [((n : Int) + 1)]).flatMap (oneE .i64)) := by
            rw [List.length_append, List.flatMap_append]
            exact hown3
          clear hgrow hown3 own2
          go_wp2_with fail
          go_roundw
          case rel => exact ⟨n + 1, by omega, by go_num, by rw [HN.out]; exact own3, hb3⟩
          case measure => simp [intOf]; omega
    · obtain rfl : n = 12 := by omega
      have i1 : ¬ (((12 : Nat) : Int) < 12) := by omega
      clear F
      go_wp2_with fail
      go_ret
      have hs := HH.out.2.size
      exact ⟨_, rfl, (SlAt.own (one_len .i64) own).mono (fun k hk => ⟨by omega, hk.2⟩), HH.out.2.trans (hB.mono hs)⟩
end Go.Proofs.Ytfanijdemephoaa.W
