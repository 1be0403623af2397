/- Layer 6's own code, walked: the iterator over fields. -/
import Derived.Test.YtdcpohbgbnbgmaaEeA
import Derived.RangeFuncNested
import Derived.RangeFuncBound
import Derived.RangeFuncCalls
import Derived.RangeFuncLeaves
import Derived.RangeFuncBox
import Derived.Shelf.Abstract
import Derived.Shelf.RegionOpen
import Derived.WalkKit
import Derived.OwnWalkIn
import Derived.TacticsInMore
import Derived.LoopNIn
import Derived.LoopIn
import Derived.Maps.AppendAt
namespace Go.Proofs.Ytdcpohbgbnbgmaa.W
open Go.RowKit Go.Shelf
set_option linter.unusedVariables false
set_option linter.unusedSimpArgs false
attribute [local go_sem] Oper.semAt_some
/-- What has come: fields, each with what is behind it; r is left. -/
def ItOk (s : List UInt8) (pre : List (Fd × List UInt8)) (r : List UInt8) : Prop :=
  walkL s = (walkL r).map (fun p => (pre.map Prod.fst ++ p.1, p.2)) ∧ r.length + 16 * pre.length ≤ s.length ∧ r = ((pre.getLast?).map Prod.snd).getD s
def ItDone (s : List UInt8) (xs : List (Fd × List UInt8)) : Prop := ∃ r, ItOk s xs r ∧ (r.length ≤ 24 ∨ fdBad r = true)
theorem ItOk.nil (s : List UInt8) : ItOk s [] s := by
  refine ⟨?_, by simp, rfl⟩
  cases walkL s <;> simp
theorem ItOk.snoc {s r : List UInt8} {pre : List (Fd × List UInt8)} (h : ItOk s pre r) (h24 : 24 < r.length) (hb : fdBad r = false) : ItOk s (pre ++ [(fdHead r, r.drop (fdLen r))]) (r.drop (fdLen r)) := by
  obtain ⟨h1, h2, h3⟩ := h
  obtain ⟨b1, b2, b3⟩ := fd_good hb
  refine ⟨?_, ?_, ?_⟩
  · rw [h1, walkL_step r, if_neg (by omega), if_neg (by rw [hb]; decide)]
    cases walkL (r.drop (fdLen r)) with
    | none => rfl
    | some p => simp
  · rw [List.length_drop, List.length_append]
    simp only [List.length_cons, List.length_nil]
    omega
  · simp
theorem cut_drop2 (r : List UInt8) : cut (r.drop 2) 0 2 = cut r 2 4 := by unfold cut; simp
theorem lenB_bad (r : List UInt8) (h : 4 ≤ r.length) : fdBad r = (!lenB (fdLen r) || decide ((r.length : Int) < fdLen r)) := by
  obtain ⟨e1, e2⟩ := fdLen_range r h
  unfold fdBad lenB pairB
  generalize fdLen r = n at *
  by_cases h1 : n < 16
  · have : ¬ (16 : Int) ≤ n := by omega
    simp [h1, this]
  · have a1 : (16 : Int) ≤ n := by omega
    have a2 : (0 : Int) ≤ n := by omega
    have a3 : (n : Int) ≤ 65535 := by omega
    have a4 : ((n : Int) % 4 == 0) = (n % 4 == 0) := by
      rw [Bool.eq_iff_iff]; simp; omega
    have a5 : decide ((r.length : Int) < n) = decide (r.length < n) := by
      rw [Bool.eq_iff_iff]; simp
    rw [a4, a5]
    simp [h1, a1, a2, a3]
theorem grownBy_drewN (w : World) (m : Nat) : w.grownBy (w.drewN m) none := ⟨rfl, rfl, rfl, Nat.le_refl _, fun _ _ _ => rfl⟩
set_option maxRecDepth 100000 in
set_option maxHeartbeats 3200000 in
theorem fields1_in (n : Nat) (hn : 1 ≤ n) (s : List UInt8) (hs : s.length ≤ 1000000) (l Bn : Nat) (J Jx : List (Fd × List UInt8) → World → Prop) (W : World) (hJ : AbidesFrom W.heap.size J)
    (hY : ∀ pre x W, J pre W → pre.length < s.length → YieldAt Fence.wide (n - 1) Try.prog l #[.agg #[.int .i64 x.1.ty, .string (bs x.1.body)], .string (bs x.2)] W fun e W' =>
      (e = .returned (.bool true) ∧ J (pre ++ [x]) W' ∧ True) ∨ (e = .returned (.bool false) ∧ Jx (pre ++ [x]) W'))
    (hBn : W.cell? ⟨Bn, 0, none⟩ = some (.string (bs s))) (h0 : J [] W) :
    CallsIn Fence.wide n Try.prog 34 #[.func (.yield l) #[] #[], .pointer (some ⟨Bn, 0, none⟩)] W fun e W' => (∃ v, e = .returned v) ∧
      ((∃ xs, ItDone s xs ∧ J xs W') ∨ (∃ pre, True ∧ Jx pre W')) := by
  refine callsIn_of_wp Try.func34 rfl trivial ?_ rfl
  simp only [Try.ntmps34, List.size_toArray, List.length_cons, List.length_nil, Nat.reduceAdd, Nat.reduceSub, Array.replicate_succ, Array.replicate_zero, List.push_toArray, List.append_toArray, List.nil_append, List.cons_append]
  gi_wp2
  gi_loopw [3] (fun p wr => ∃ (pre : List (Fd × List UInt8)) (r : List UInt8), p = .string (bs r) ∧ ItOk s pre r ∧ J pre wr)
    (fun p _ => match p with | .string t => t.size | _ => 0)
  case atStart => exact ⟨[], s, rfl, .nil s, h0⟩
  case round =>
    obtain ⟨pre, r, rfl, hI, hJs⟩ := hrel
    have hr := hI.2.1
    by_cases h24 : r.length ≤ 24
    · have h24i : ¬ 24 < (r.length : Int) := by omega
      gi_wp2
      go_end0
      exact ⟨⟨_, rfl⟩, .inl ⟨pre, ⟨r, hI, .inl h24⟩, hJs⟩⟩
    · have h24i : 24 < (r.length : Int) := by omega
      obtain ⟨f1, f2⟩ := fdLen_range r (by omega)
      have g1 : ∀ w, (Instr.slice 9 (.string (bs r)) (some (.int .i64 2)) none none).run Try.prog w = .ok (.string (bs (r.drop 2))) w := slice_from r 2 (by omega)
      have c1 := pair_any (r.drop 2) (by rw [List.length_drop]; omega)
      have c2 := isLength_any (fdLen r : Int)
      rw [cut_drop2, f1] at c1
      have hbad := lenB_bad r (by omega)
      have E1 := Lib.hid f1
      clear f1
      generalize hx : lenB (fdLen r : Int) = x at *
      cases x
      · have HB := Lib.hid hbad
        clear hbad hx
        gi_wp2_with fail
        refine ⟨trivial, (callsIn_wide.2 (c1 _)).mono ?_⟩
        rintro e w' ⟨rfl, m, rfl⟩
        gi_wp2_with fail
        refine ⟨trivial, (callsIn_wide.2 (c2 _)).mono ?_⟩
        rintro e w' ⟨rfl, rfl⟩
        gi_wp2_with fail
        refine bodyPost_ret (results_none rfl _ _ _) rfl ?_
        exact ⟨⟨_, rfl⟩, .inl ⟨pre, ⟨r, hI, .inr (by rw [HB.out]; rfl)⟩, hJ _ _ _ none hJs (grownBy_drewN _ _) (fun r e => by cases e)⟩⟩
      · by_cases hlt : (r.length : Int) < fdLen r
        · have hb : fdBad r = true := by rw [hbad]; simp [hlt]
          have HB := Lib.hid hb
          clear hbad hx hb
          gi_wp2_with fail
          refine ⟨trivial, (callsIn_wide.2 (c1 _)).mono ?_⟩
          rintro e w' ⟨rfl, m, rfl⟩
          gi_wp2_with fail
          refine ⟨trivial, (callsIn_wide.2 (c2 _)).mono ?_⟩
          rintro e w' ⟨rfl, rfl⟩
          gi_wp2_with fail
          refine bodyPost_ret (results_none rfl _ _ _) rfl ?_
          exact ⟨⟨_, rfl⟩, .inl ⟨pre, ⟨r, hI, .inr HB.out⟩, hJ _ _ _ none hJs (grownBy_drewN _ _) (fun r e => by cases e)⟩⟩
        · have hb : fdBad r = false := by rw [hbad]; simp [hlt]
          obtain ⟨b1, b2, b3⟩ := fd_good hb
          have hI2 := hI.snoc (by omega) hb
          have c3 := pair_any r (by omega)
          have g3 : ∀ w, (Instr.slice 9 (.string (bs r)) (some (.int .i64 4)) (some (.int .i64 (fdLen r))) none).run Try.prog w = .ok (.string (bs (cut r 4 (fdLen r)))) w := slice_at r 4 (fdLen r) (by omega) (by omega)
          have g4 : ∀ w, (Instr.slice 9 (.string (bs r)) (some (.int .i64 (fdLen r))) none none).run Try.prog w = .ok (.string (bs (r.drop (fdLen r)))) w := slice_from r (fdLen r) (by omega)
          have hdl : (r.drop (fdLen r)).length = r.length - fdLen r := List.length_drop
          unfold fdHead at hI2
          have HI := Lib.hid hI2
          clear hbad hx hb hI2
          generalize hR : r.drop (fdLen r) = R at *
          clear hR
          generalize cut r 4 (fdLen r) = body at *
          generalize num (cut r 0 2) = ty at *
          generalize bs (r.drop 2) = S2 at *
          generalize fdLen r = k at *
          gi_wp2_with fail
          refine ⟨trivial, (callsIn_wide.2 (c1 _)).mono ?_⟩
          rintro e w' ⟨rfl, m, rfl⟩
          gi_wp2_with fail
          refine ⟨trivial, (callsIn_wide.2 (c2 _)).mono ?_⟩
          rintro e w' ⟨rfl, rfl⟩
          gi_wp2_with fail
          rw [wpIn_wide]
          refine wp_region_any (by kernel_rfl) ?_
          change wpAny _ _ _ _ _ _ _ (World.drew _)
          refine wpAny_take (i := 0) (v := .string (bs r)) rfl (by kernel_rfl) (by kernel_rfl) (by kernel_rfl) (fun _ _ _ h => h) (Or.inl ⟨by rfl, fun w => by go_simp⟩) ?_
          refine wpAny_take (i := 2) (v := .string (bs r)) rfl (by kernel_rfl) (by kernel_rfl) (by kernel_rfl) (fun _ _ _ h => h) (Or.inl ⟨by rfl, fun w => by go_simp⟩) ?_
          refine wpAny_take (i := 3) (v := .int .i64 k) rfl (by kernel_rfl) (by kernel_rfl) (by kernel_rfl) (fun _ _ _ h => h) (Or.inl ⟨by rfl, fun w => by go_simp⟩) ?_
          refine wpAny_take (i := 4) (v := .string (bs body)) rfl (by kernel_rfl) (by kernel_rfl) (by kernel_rfl) (fun _ _ _ h => h) (Or.inl ⟨by rfl, fun w => by go_simp⟩) ?_
          refine wpAny_ready (rs := [1, 6]) (by kernel_rfl) (by simp) ?_
          refine AllReady.cons rfl (fun K hK => ?_) (AllReady.cons rfl (fun K hK => ?_) (AllReady.nil))
          · go_simp
            go_wp2_with ((go_at_call 35; with_reducible refine (c3 _).mono ?_; rintro e w5 ⟨rfl, m2, rfl⟩))
            first | (refine hK _ _ ?_; clear hK K) | skip
            refine wpAny_take (i := 5) (v := .agg #[.int .i64 ty, .string (bs body)]) rfl (by kernel_rfl) (by kernel_rfl) (by kernel_rfl) (fun _ _ _ h => h) (Or.inl ⟨by rfl, fun w => by go_simp⟩) ?_
            refine wpAny_ready (rs := [6]) (by kernel_rfl) (by simp) ?_
            refine AllReady.cons rfl (fun K hK => ?_) (AllReady.nil)
            go_simp
            (refine hK _ _ ?_; clear hK K)
            refine wpAny_ready (rs := [7]) (by kernel_rfl) (by simp) ?_
            refine AllReady.cons rfl (fun K hK => ?_) (AllReady.nil)
            go_simp
            (refine hK _ _ ?_; clear hK K)
            refine wpAny_done (by kernel_rfl) ?_ _
            have hW2 : J pre ((wr.alloc (.cells #[.int .i64 ty, .string (bs body)] 44)).drewN (m + 1 + m2)) :=
              hJ _ _ _ none hJs ((World.grownBy_alloc wr _ none).trans (grownBy_drewN _ _)) (fun r e => by cases e)
            obtain ⟨fn, tmps, assign, bdy, hy, hR⟩ := hY pre (⟨ty, body⟩, R) _ hW2 (by omega)
            dsimp only at hy
            gi_wp2_with fail
            refine hR.mono ?_
            rintro e W3 (⟨rfl, hJ3, _⟩ | ⟨rfl, hJx3⟩)
            · gi_wp2_with fail
              go_roundw
              case rel => exact ⟨pre ++ [(⟨ty, body⟩, R)], R, rfl, HI.out, hJ3⟩
              case measure => simp [bs_size]; omega
            · gi_wp2_with fail
              refine bodyPost_ret (results_none rfl _ _ _) rfl ?_
              exact ⟨⟨_, rfl⟩, .inr ⟨_, trivial, hJx3⟩⟩
          · go_simp
            (refine hK _ _ ?_; clear hK K)
            refine wpAny_ready (rs := [1]) (by kernel_rfl) (by simp) ?_
            refine AllReady.cons rfl (fun K hK => ?_) (AllReady.nil)
            go_simp
            go_wp2_with ((go_at_call 35; with_reducible refine (c3 _).mono ?_; rintro e w5 ⟨rfl, m2, rfl⟩))
            first | (refine hK _ _ ?_; clear hK K) | skip
            refine wpAny_take (i := 5) (v := .agg #[.int .i64 ty, .string (bs body)]) rfl (by kernel_rfl) (by kernel_rfl) (by kernel_rfl) (fun _ _ _ h => h) (Or.inl ⟨by rfl, fun w => by go_simp⟩) ?_
            refine wpAny_ready (rs := [7]) (by kernel_rfl) (by simp) ?_
            refine AllReady.cons rfl (fun K hK => ?_) (AllReady.nil)
            go_simp
            (refine hK _ _ ?_; clear hK K)
            refine wpAny_done (by kernel_rfl) ?_ _
            have hW2 : J pre ((wr.alloc (.cells #[.int .i64 ty, .string (bs body)] 44)).drewN (m + 1 + m2)) :=
              hJ _ _ _ none hJs ((World.grownBy_alloc wr _ none).trans (grownBy_drewN _ _)) (fun r e => by cases e)
            obtain ⟨fn, tmps, assign, bdy, hy, hR⟩ := hY pre (⟨ty, body⟩, R) _ hW2 (by omega)
            dsimp only at hy
            gi_wp2_with fail
            refine hR.mono ?_
            rintro e W3 (⟨rfl, hJ3, _⟩ | ⟨rfl, hJx3⟩)
            · gi_wp2_with fail
              go_roundw
              case rel => exact ⟨pre ++ [(⟨ty, body⟩, R)], R, rfl, HI.out, hJ3⟩
              case measure => simp [bs_size]; omega
            · gi_wp2_with fail
              refine bodyPost_ret (results_none rfl _ _ _) rfl ?_
              exact ⟨⟨_, rfl⟩, .inr ⟨_, trivial, hJx3⟩⟩
/-- What the iterator's value does. -/
theorem fields_stops (n : Nat) (hn : 1 ≤ n) (s : List UInt8) (hs : s.length ≤ 1000000) (Bn : Nat) (w : World) (hBn : Bn < w.heap.size) (hc : w.cell? ⟨Bn, 0, none⟩ = some (.string (bs s))) :
    SeqStopsK Fence.wide n Try.prog 34 #[.pointer (some ⟨Bn, 0, none⟩)] (fun x : Fd × List UInt8 => #[.agg #[.int .i64 x.1.ty, .string (bs x.1.body)], .string (bs x.2)]) (fun _ _ => True) (ItDone s) (fun _ => True) s.length w :=
  fun l J Jx W hW hJ _ hY h0 => fields1_in n hn s hs l Bn J Jx W hJ hY ((hW.cell (p := ⟨Bn, 0, none⟩) hBn).trans hc) h0
set_option maxHeartbeats 800000 in
theorem fieldsOf_any (s : List UInt8) (w : World) :
    Calls Try.prog 21 #[.string (bs s)] w fun e w' => e = .returned (.func (.func 34) #[] #[.pointer (some ⟨w.heap.size, 0, none⟩)]) ∧ w' = w.alloc (.cells #[.string (bs s)] 9) := by
  go_enter Try.func21, Try.ntmps21
  go_wp2
  go_ret
  exact ⟨rfl, rfl⟩
end Go.Proofs.Ytdcpohbgbnbgmaa.W
