/- The document's own answers of layer 6, walked: fields behind a header. -/
import Derived.Test.YtdcpohbgbnbgmaaEdA
import Derived.Test.YtdcpohbgbnbgmaaHdR
import Derived.Test.YtdcpohbgbnbgmaaHdI
import Derived.WalkKit
import Derived.OwnWalk
import Derived.Lib.QuietBelow
import Derived.BigQuiet
import Derived.Deep.DeepCutAuto
import Derived.Deep.RegionHeld3
import Derived.Deep.AppendLies
namespace Go.Proofs.Ytdcpohbgbnbgmaa.W
open Go.RowKit Go.Sort
set_option linter.unusedVariables false
set_option linter.unusedSimpArgs false
/-- Fields as a row of cells. -/
def fdCells (l : List Fd) : List Value := l.flatMap fun f => [.int .i64 f.ty, .string (bs f.body)]
theorem fdCells_snoc (l : List Fd) (f : Fd) : fdCells l ++ [.int .i64 f.ty, .string (bs f.body)] = fdCells (l ++ [f]) := by simp [fdCells]
def wkL (l : List UInt8) : List Fd := match walkL l with | some p => p.1 | none => []
def wkM (l : List UInt8) : List UInt8 := match walkL l with | some p => p.2 | none => []
def wkE (l : List UInt8) : Int := match walkL l with | some _ => 0 | none => 60
theorem wk_yes {l : List UInt8} {x : List Fd} {m : List UInt8} (h : walkL l = some (x, m)) : wkL l = x ∧ wkM l = m ∧ wkE l = 0 := by
  unfold wkL wkM wkE; rw [h]; exact ⟨rfl, rfl, rfl⟩
theorem wk_no {l : List UInt8} (h : walkL l = none) : wkL l = [] ∧ wkM l = [] ∧ wkE l = 60 := by
  unfold wkL wkM wkE; rw [h]; exact ⟨rfl, rfl, rfl⟩
set_option maxHeartbeats 800000 in
theorem rmac_any (n : Nat) (hn : n ≤ 1000000) (w : World) :
    Calls Try.prog 24 #[.int .i64 n] w fun e w' => e = .returned (.bool (macN n)) ∧ w = w' := by
  have hc : n = 0 ∨ n = 4 ∨ n = 20 ∨ n = 24 ∨ macN n = false := by
    by_cases h : macN n = false
    · exact .inr (.inr (.inr (.inr h)))
    · unfold macN at h
      simp at h
      omega
  rcases hc with rfl | rfl | rfl | rfl | h
  · go_enter Try.func24, Try.ntmps24
    go_wp2
    go_ret
    exact ⟨rfl, rfl⟩
  · go_enter Try.func24, Try.ntmps24
    go_wp2
    go_ret
    exact ⟨rfl, rfl⟩
  · go_enter Try.func24, Try.ntmps24
    go_wp2
    go_ret
    exact ⟨rfl, rfl⟩
  · go_enter Try.func24, Try.ntmps24
    go_wp2
    go_ret
    exact ⟨rfl, rfl⟩
  · have h' := h
    unfold macN at h'
    simp at h'
    obtain ⟨h0, h1, h2, h3⟩ : n ≠ 0 ∧ n ≠ 4 ∧ n ≠ 20 ∧ n ≠ 24 := by omega
    have i0 : ¬ (n : Int) = 0 := by omega
    have i1 : ¬ (n : Int) = 4 := by omega
    have i2 : ¬ (n : Int) = 20 := by omega
    have i3 : ¬ (n : Int) = 24 := by omega
    rw [h]
    clear h h'
    go_enter Try.func24, Try.ntmps24
    go_wp2
    go_ret
    exact ⟨ret1b (by simp; omega), rfl⟩
theorem info_Fd : (Try.prog.info? 53).map (fun i => (i.zero, i.size, i.bytes)) = some (some (.agg #[.int .i64 0, .string ByteArray.empty]), 2, 24) := by kernel_rfl
theorem ownsRow_empty2 (w : World) (e : TypeId) (size : Nat) : (w.alloc (.cells #[] e)).ownsRow w.heap.size e size (.slice (some ⟨w.heap.size, 0, none⟩) 0 0) 0 [] :=
  ⟨by simp, .inr ⟨w.heap.size, 0, #[], rfl, Nat.le_refl _, heap_alloc_new _ _, Nat.le_refl _, by unfold maxLen; omega, by simp, by simp⟩⟩
set_option maxHeartbeats 3200000 in
theorem rwalk_any (l : List UInt8) (hl : l.length ≤ 1000000) (w : World) :
    Calls Try.prog 10 #[.string (bs l)] w fun e w' => ∃ v, e = .returned (.tuple #[v, .string (bs (wkM l)), .int .i64 (wkE l)]) ∧ w'.ownsRow w.heap.size 53 2 v (wkL l).length (fdCells (wkL l)) ∧ Below w.heap.size w w' := by
  obtain ⟨i0, hi0, hz0, hz1, hz2⟩ := info_parts info_Fd
  go_enter Try.func10, Try.ntmps10
  go_wp2
  go_loopw [0, 5] (fun s v wr => ∃ (acc : List Fd) (r : List UInt8), s = .string (bs r) ∧ r.length + 16 * acc.length ≤ l.length ∧ wr.ownsRow w.heap.size 53 2 v acc.length (fdCells acc) ∧ walkL l = (walkL r).map (fun p => (acc ++ p.1, p.2)) ∧ Below w.heap.size w wr)
    (fun s _ _ => match s with | .string t => t.size | _ => 0)
  case atStart => exact ⟨[], l, rfl, by simp, ownsRow_empty2 _ _ _, by cases walkL l <;> simp, (Below.refl _ _).alloc (Nat.le_refl _) _⟩
  case round =>
    obtain ⟨acc, r, rfl, hlen, own, hw, hB⟩ := hrel
    have hsz := hB.size
    have hws := walkL_step r
    by_cases h24 : r.length ≤ 24
    · rw [if_pos h24] at hws
      have c := rmac_any r.length (by omega)
      have h24i : ¬ 24 < (r.length : Int) := by omega
      by_cases hm : macN r.length = true
      · rw [if_pos hm] at hws
        rw [hws] at hw
        simp at hw
        obtain ⟨e1, e2, e3⟩ := wk_yes hw
        have E1 := Lib.hid e1
        have E2 := Lib.hid e2
        have E3 := Lib.hid e3
        rw [hm] at c
        clear e1 e2 e3 hw hws hm h24
        go_wp2_with fail
        (with_reducible refine (c _).mono ?_)
        rintro e w' ⟨rfl, rfl⟩
        go_wp2_with fail
        go_ret3
        exact ⟨_, by rw [E2.out, E3.out]; rfl, by rw [E1.out]; exact own, hB⟩
      · rw [if_neg hm] at hws
        rw [hws] at hw
        obtain ⟨e1, e2, e3⟩ := wk_no hw
        have E1 := Lib.hid e1
        have E2 := Lib.hid e2
        have E3 := Lib.hid e3
        have hm' : macN r.length = false := by simpa using hm
        rw [hm'] at c
        clear e1 e2 e3 hw hws hm hm' h24
        go_wp2_with fail
        (with_reducible refine (c _).mono ?_)
        rintro e w' ⟨rfl, rfl⟩
        go_wp2_with fail
        go_ret3
        exact ⟨_, by rw [E2.out, E3.out]; rfl, by rw [E1.out]; exact World.ownsRow_nil _ _ _ _, hB⟩
    · have h24i : 24 < (r.length : Int) := by omega
      obtain ⟨f1, f2⟩ := fdLen_range r (by omega)
      have c1 := number_any (cut r 2 4) (by rw [cut_len]; omega)
      rw [f1] at c1
      have g1 : ∀ w, (Instr.slice 9 (.string (bs r)) (some (.int .i64 2)) (some (.int .i64 4)) none).run Try.prog w = .ok (.string (bs (cut r 2 4))) w := slice_at r 2 4 (by omega) (by omega)
      rw [if_neg h24] at hws
      by_cases hb : fdBad r = true
      · rw [if_pos hb] at hws
        rw [hws] at hw
        obtain ⟨e1, e2, e3⟩ := wk_no hw
        have E1 := Lib.hid e1
        have E2 := Lib.hid e2
        have E3 := Lib.hid e3
        have hc : ((fdLen r : Int) < 16) ∨ (¬ (fdLen r : Int) < 16 ∧ ¬ (fdLen r : Int) % 4 = 0) ∨ (¬ (fdLen r : Int) < 16 ∧ (fdLen r : Int) % 4 = 0 ∧ (r.length : Int) < fdLen r) := by
          unfold fdBad at hb
          simp at hb
          omega
        clear e1 e2 e3 hw hws hb f1
        generalize cut r 2 4 = p at *
        generalize fdLen r = n at *
        rcases hc with hc | ⟨hc, hd⟩ | ⟨hc, hd, he⟩
        all_goals
          go_wp2_with fail
          (with_reducible refine (c1 _).mono ?_)
          rintro e w' ⟨rfl, rfl⟩
          go_wp2_with fail
          go_ret3
          exact ⟨_, by rw [E2.out, E3.out]; rfl, by rw [E1.out]; exact World.ownsRow_nil _ _ _ _, hB⟩
      · rw [if_neg hb] at hws
        obtain ⟨b1, b2, b3⟩ := fd_good (by simpa using hb)
        have hc1 : ¬ (fdLen r : Int) < 16 := by omega
        have hc2 : (fdLen r : Int) % 4 = 0 := by omega
        have hc3 : ¬ (r.length : Int) < (fdLen r : Int) := by omega
        have c2 := number_any (cut r 0 2) (by rw [cut_len]; omega)
        have g2 : ∀ w, (Instr.slice 9 (.string (bs r)) none (some (.int .i64 2)) none).run Try.prog w = .ok (.string (bs (cut r 0 2))) w := slice_to r 2 (by omega)
        have g3 : ∀ w, (Instr.slice 9 (.string (bs r)) (some (.int .i64 4)) (some (.int .i64 (fdLen r))) none).run Try.prog w = .ok (.string (bs (cut r 4 (fdLen r)))) w := slice_at r 4 (fdLen r) (by omega) (by omega)
        have g4 : ∀ w, (Instr.slice 9 (.string (bs r)) (some (.int .i64 (fdLen r))) none none).run Try.prog w = .ok (.string (bs (r.drop (fdLen r)))) w := slice_from r (fdLen r) (by omega)
        have n1 := num_cut r 0 2 (by omega)
        simp only [Nat.sub_zero, Int.reducePow] at n1
        have hrest : walkL l = (walkL (r.drop (fdLen r))).map (fun p => ((acc ++ [fdHead r]) ++ p.1, p.2)) := by
          rw [hw, hws]
          cases walkL (r.drop (fdLen r)) with
          | none => rfl
          | some p => simp
        have hsn := fdCells_snoc acc (fdHead r)
        have hdl : (r.drop (fdLen r)).length = r.length - fdLen r := List.length_drop
        unfold fdHead at hsn hrest
        simp only [] at hsn
        have HS := Lib.hid hsn
        have HR := Lib.hid hrest
        have HD := Lib.hid hdl
        clear hw hws hb f1 hsn hrest hdl
        generalize hdr : r.drop (fdLen r) = r' at *
        clear hdr
        generalize cut r 2 4 = p2 at *
        generalize cut r 4 (fdLen r) = body at *
        generalize num (cut r 0 2) = ty at *
        generalize cut r 0 2 = p0 at *
        generalize fdLen r = n at *
        have wty : IntKind.i64.wrap ty = ty := by rw [IntKind.wrap_i64]; omega
        go_wp2_with fail
        (with_reducible refine (c1 _).mono ?_)
        rintro e w' ⟨rfl, rfl⟩
        go_wp2_with fail
        go_region_held3 (fun w' => True)
          (first | trivial | go_keep)
          (first
            | (go_at_call 23; refine (c2 _).mono ?_; rintro e w' ⟨rfl, rfl⟩)
            | (refine step_append_lies _ (by rfl) _ _ _ (by rfl) w.heap.size 53 i0 _ 2 24 Try.underlying27 hi0 hz0 hz1 hz2 rfl (by omega) _ acc.length (fdCells acc) (by rfl) ((own.alloc _).drew)
                ⟨wr.heap.size, 0, none⟩ 1 1 [.int .i64 ty, .string (bs body)] (by rfl) (by rfl) (World.news_of_block (cs := #[.int .i64 ty, .string (bs body)]) (t := 53) (fr := (0, 0)) (heap_alloc_new wr _)) (by simp [Value.oneCell']) (by omega) (by unfold maxLen; omega) (by omega) (by simp; omega) (wr.heap.size + 1) (by simp) ?_; intro gg cp w1 hown1 hgrow hat hglt))
        rw [HS.out] at hown1
        have hB1 : Below w.heap.size w w1 := ((hB.alloc hsz _).drew).grown hgrow (by simp; omega) (fun g hg => (own.lt g hg).1)
        clear hgrow hat own
        go_wp2_with fail
        go_roundw
        case rel => exact ⟨acc ++ [⟨ty, body⟩], r', rfl, by have := HD.out; simp; omega, by simpa using hown1, HR.out, hB1⟩
        case measure => have := HD.out; simp [bs_size]; omega
end Go.Proofs.Ytdcpohbgbnbgmaa.W
