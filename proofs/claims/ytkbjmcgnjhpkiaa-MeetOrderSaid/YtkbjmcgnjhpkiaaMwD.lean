/- Layer 16's own code, walked: slices.All and slices.Backward at edges. -/
import Derived.Test.YtkbjmcgnjhpkiaaMwB
import Derived.Test.YtkbjmcgnjhpkiaaYdA
import Derived.RangeFuncNested
import Derived.RangeFuncBound
import Derived.RangeFuncCalls
import Derived.RangeFuncLeaves
import Derived.RangeFuncBox
import Derived.Shelf.Abstract
import Derived.Shelf.RegionOpen
import Derived.WalkKit
import Derived.OwnWalkIn
import Derived.TacticsInMore
import Derived.LoopNIn
import Derived.LoopIn
import Derived.Maps.AppendAt
namespace Go.Proofs.Ytkbjmcgnjhpkiaa.W
open Go.RowKit Go.Shelf Go.Sort
set_option linter.unusedVariables false
set_option linter.unusedSimpArgs false
attribute [local go_sem] Oper.semAt_some
/-- An edge that comes, with its place. -/
abbrev Ied := { x : Nat × Eg // x.2.Ok }
def iedE (x : Ied) : Array Value := #[.int .i64 (x.1.1 : Int), x.1.2.val]
def egsOf (pre : List Ied) : List Eg := pre.map fun x => x.1.2
theorem egs_snoc (pre : List Ied) (x : Ied) : egsOf (pre ++ [x]) = egsOf pre ++ [x.1.2] := by simp [egsOf]
theorem egs_length (pre : List Ied) : (egsOf pre).length = pre.length := by simp [egsOf]
/-- A row of edges that is read. -/
def RowE (n₀ : Nat) (W : World) (v : Value) (E : List Eg) : Prop := SlAt (fun b => b < n₀) 2 egE W v E
theorem RowE.below {n₀ : Nat} {A B : World} {v : Value} {E : List Eg} (h : RowE n₀ A v E) (hB : Below n₀ A B) : RowE n₀ B v E := h.kept fun b hb => hB.block b hb
theorem eg_at {w : World} {b q : Nat} {e : Eg} (h : ∀ j u, (egE e)[j]? = some u → w.cell? ⟨b, q + j, none⟩ = some u) :
    w.cell? ⟨b, q, none⟩ = some (.int .i64 e.at_) ∧ w.cell? ⟨b, q + 1, none⟩ = some (.int .i64 e.sd) := ⟨h 0 _ rfl, h 1 _ rfl⟩
set_option maxRecDepth 100000 in
set_option maxHeartbeats 6400000 in
theorem all1_in (E : List Eg) (hE : ∀ e ∈ E, e.Ok) (h30 : E.length ≤ 100000) (l Bs n₀ : Nat) (v : Value) (J Jx : List Ied → World → Prop) (W : World) (hJ : OwnFrom W.heap.size J) (hn : n₀ ≤ W.heap.size)
    (hY : ∀ pre x W1, J pre W1 → pre.length < E.length → YieldAt Fence.wide 0 Try.prog l (iedE x) W1 fun e W' => Fixed W.heap.size W1 W' ∧
      ((e = .returned (.bool true) ∧ J (pre ++ [x]) W' ∧ Below n₀ W1 W') ∨ (e = .returned (.bool false) ∧ Jx (pre ++ [x]) W')))
    (hBs : Bs < n₀) (hB : W.heap[Bs]? = some (.cells #[v] 55 (0, 0))) (hR : RowE n₀ W v E) (h0 : J [] W) :
    CallsIn Fence.wide 0 Try.prog 34 #[.func (.yield l) #[] #[], .pointer (some ⟨Bs, 0, none⟩)] W fun e W' => (∃ v, e = .returned v) ∧
      ((∃ xs, egsOf xs = E ∧ J xs W') ∨ (∃ pre, egsOf pre <+: E ∧ Jx pre W')) := by
  obtain ⟨vx, vc, rfl⟩ := hR.slice
  refine callsIn_of_wp Try.func34 rfl trivial ?_ rfl
  simp only [Try.ntmps34, List.size_toArray, List.length_cons, List.length_nil, Nat.reduceAdd, Nat.reduceSub, Array.replicate_succ, Array.replicate_zero, List.push_toArray, List.append_toArray, List.nil_append, List.cons_append]
  obtain ⟨b0, _⟩ := one_at16 hB
  have HY := Lib.hid hY
  have HJ := Lib.hid hJ
  have HR := Lib.hid hR
  have HB := Lib.hid hB
  have hsz := Nat.le_refl W.heap.size
  clear hY hJ hR hB
  gi_wp2_with fail
  gi_loopw [7] (fun v wr => ∃ (i : Nat) (pre : List Ied), i ≤ E.length ∧ v = .int .i64 i ∧ pre.length = i ∧ egsOf pre = E.take i ∧ J pre wr ∧ Below n₀ W wr ∧ W.heap.size ≤ wr.heap.size) (fun v _ => E.length - (intOf v).toNat)
  case atStart => exact ⟨0, [], Nat.zero_le _, rfl, rfl, by simp [egsOf], h0, Below.refl _ _, Nat.le_refl _⟩
  case round =>
    obtain ⟨i, pre, hin, rfl, hpl, hP, hJs, hBw, hsw⟩ := hrel
    clear h0 b0
    by_cases hi : i < E.length
    · obtain ⟨s, hsn⟩ : ∃ s, E[i]? = some s := ⟨_, List.getElem?_eq_getElem hi⟩
      have hok := hE s (List.mem_of_getElem? hsn)
      rcases HR.out with ⟨_, _, _, _, hnil⟩ | ⟨b, off, cap', hvv, hbF, hcs⟩
      · rw [hnil] at hi
        simp at hi
      have hsxx : vx = some ⟨b, off, none⟩ := (Value.slice.inj hvv).1
      subst hsxx
      obtain ⟨x0, x1⟩ := eg_at (w := wr) (b := b) (q := off + i * 2) (e := s) (fun j u hu => by
        rw [hBw.cell hbF]
        exact hcs i s hsn j u hu)
      have hJ2 : J pre (wr.alloc (.cells #[.int .i64 s.at_, .int .i64 s.sd] 65)) := HJ.out.alloc _ hJs
      have hyy := HY.out pre ⟨(i, s), hok⟩ _ hJ2 (by omega)
      have hsn' : egsOf (pre ++ [⟨(i, s), hok⟩]) = E.take (i + 1) := by
        rw [egs_snoc, hP]
        obtain ⟨h1, rfl⟩ := List.getElem?_eq_some_iff.1 hsn
        rw [List.take_succ_eq_append_getElem h1]
      have HS := Lib.hid hsn'
      have HBW := Lib.hid (hBw.alloc (Nat.le_trans hn hsw) (.cells #[.int .i64 s.at_, .int .i64 s.sd] 65))
      have HL := Lib.hid hpl
      have hii : (i : Int) < (E.length : Int) := by omega
      have gii : (0 : Int) ≤ (i : Int) := by omega
      obtain ⟨fn, tmps, assign, body, hy, hR⟩ := hyy
      unfold iedE Eg.val at hy
      dsimp only at hy
      clear hP hBw hcs hvv hJs hJ2 hsn' hpl hE
      gi_wp2_with fail
      refine ⟨rfl, hR.mono ?_⟩
      rintro e W3 ⟨hkf, ⟨rfl, hJ3, hkp⟩ | ⟨rfl, hJx3⟩⟩
      · have E1 := Lib.hid (And.intro hJ3 (And.intro (HBW.out.trans hkp) hkf.size))
        clear hJ3 hkp hkf
        gi_wp2_with fail
        go_roundw
        case rel =>
          obtain ⟨hJ3, hb3, hz3⟩ := E1.out
          rw [World.size_alloc] at hz3
          exact ⟨i + 1, _, by omega, rfl, by simp [HL.out], HS.out, hJ3, hb3, by omega⟩
        case measure => simp [intOf]; omega
      · have E1 := Lib.hid hJx3
        clear hJx3 hkf
        gi_wp2_with fail
        refine bodyPost_ret (results_none rfl _ _ _) rfl ?_
        exact ⟨⟨_, rfl⟩, .inr ⟨_, by rw [HS.out]; exact List.take_prefix _ _, E1.out⟩⟩
    · obtain rfl : i = E.length := by omega
      have hii : ¬ (E.length : Int) < (E.length : Int) := by omega
      have E1 := Lib.hid (And.intro hP hJs)
      clear hP hJs hBw
      gi_wp2_with fail
      go_end0
      exact ⟨⟨_, rfl⟩, .inl ⟨pre, by rw [E1.out.1, List.take_length], E1.out.2⟩⟩
set_option maxRecDepth 100000 in
set_option maxHeartbeats 6400000 in
theorem back1_in (E : List Eg) (hE : ∀ e ∈ E, e.Ok) (h30 : E.length ≤ 100000) (l Bs n₀ : Nat) (v : Value) (J Jx : List Ied → World → Prop) (W : World) (hJ : OwnFrom W.heap.size J) (hn : n₀ ≤ W.heap.size)
    (hY : ∀ pre x W1, J pre W1 → pre.length < E.length → YieldAt Fence.wide 0 Try.prog l (iedE x) W1 fun e W' => Fixed W.heap.size W1 W' ∧
      ((e = .returned (.bool true) ∧ J (pre ++ [x]) W' ∧ Below n₀ W1 W') ∨ (e = .returned (.bool false) ∧ Jx (pre ++ [x]) W')))
    (hBs : Bs < n₀) (hB : W.heap[Bs]? = some (.cells #[v] 55 (0, 0))) (hR : RowE n₀ W v E) (h0 : J [] W) :
    CallsIn Fence.wide 0 Try.prog 35 #[.func (.yield l) #[] #[], .pointer (some ⟨Bs, 0, none⟩)] W fun e W' => (∃ v, e = .returned v) ∧
      ((∃ xs, egsOf xs = E.reverse ∧ J xs W') ∨ (∃ pre, egsOf pre <+: E.reverse ∧ Jx pre W')) := by
  obtain ⟨vx, vc, rfl⟩ := hR.slice
  refine callsIn_of_wp Try.func35 rfl trivial ?_ rfl
  simp only [Try.ntmps35, List.size_toArray, List.length_cons, List.length_nil, Nat.reduceAdd, Nat.reduceSub, Array.replicate_succ, Array.replicate_zero, List.push_toArray, List.append_toArray, List.nil_append, List.cons_append]
  obtain ⟨b0, _⟩ := one_at16 hB
  have HY := Lib.hid hY
  have HJ := Lib.hid hJ
  have HR := Lib.hid hR
  have HB := Lib.hid hB
  have hlo : -9223372036854775808 ≤ (E.length : Int) - 1 := by omega
  have hhi : (E.length : Int) - 1 ≤ 9223372036854775807 := by omega
  have hwl : IntKind.i64.wrap ((E.length : Int) - 1) = (E.length : Int) - 1 := by rw [IntKind.wrap_i64]; omega
  clear hY hJ hR hB
  gi_wp2_with fail
  gi_loopw [3] (fun v wr => ∃ (i : Nat) (pre : List Ied), i ≤ E.length ∧ v = .int .i64 ((E.length : Int) - 1 - i) ∧ pre.length = i ∧ egsOf pre = E.reverse.take i ∧ J pre wr ∧ Below n₀ W wr ∧ W.heap.size ≤ wr.heap.size) (fun v _ => (intOf v + 1).toNat)
  case atStart => exact ⟨0, [], Nat.zero_le _, by simp, rfl, by simp [egsOf], h0, Below.refl _ _, Nat.le_refl _⟩
  case round =>
    obtain ⟨i, pre, hin, rfl, hpl, hP, hJs, hBw, hsw⟩ := hrel
    clear h0 b0
    have hbb := (hBw.block Bs hBs).trans HB.out
    obtain ⟨b1, _⟩ := one_at16 hbb
    by_cases hi : i < E.length
    · obtain ⟨m, hm⟩ : ∃ m, E.length - 1 - i = m := ⟨_, rfl⟩
      obtain ⟨s, hsn⟩ : ∃ s, E[m]? = some s := ⟨_, List.getElem?_eq_getElem (by omega)⟩
      have hok := hE s (List.mem_of_getElem? hsn)
      rcases HR.out with ⟨_, _, _, _, hnil⟩ | ⟨b, off, cap', hvv, hbF, hcs⟩
      · rw [hnil] at hi
        simp at hi
      have hsxx : vx = some ⟨b, off, none⟩ := (Value.slice.inj hvv).1
      subst hsxx
      obtain ⟨x0, x1⟩ := eg_at (w := wr) (b := b) (q := off + m * 2) (e := s) (fun j u hu => by
        rw [hBw.cell hbF]
        exact hcs m s hsn j u hu)
      have hyy := HY.out pre ⟨(m, s), hok⟩ _ hJs (by omega)
      have hsn' : egsOf (pre ++ [⟨(m, s), hok⟩]) = E.reverse.take (i + 1) := by
        rw [egs_snoc, hP]
        have hr : E.reverse[i]? = some s := by
          rw [List.getElem?_reverse hi, hm]
          exact hsn
        obtain ⟨h1, h2⟩ := List.getElem?_eq_some_iff.1 hr
        rw [List.take_succ_eq_append_getElem h1, h2]
      have HS := Lib.hid hsn'
      have HBW := Lib.hid hBw
      have HL := Lib.hid hpl
      have hmi : (E.length : Int) - 1 - i = (m : Int) := by omega
      have HM := Lib.hid hmi
      rw [hmi]
      have hii : (m : Int) < (E.length : Int) := by omega
      have gii : (0 : Int) ≤ (m : Int) := by omega
      obtain ⟨fn, tmps, assign, body, hy, hR⟩ := hyy
      unfold iedE Eg.val at hy
      dsimp only at hy
      clear hP hBw hcs hvv hJs hsn' hpl hE hmi hm hbb hlo hhi hwl
      gi_wp2_with fail
      refine ⟨rfl, hR.mono ?_⟩
      rintro e W3 ⟨hkf, ⟨rfl, hJ3, hkp⟩ | ⟨rfl, hJx3⟩⟩
      · have E1 := Lib.hid (And.intro hJ3 (And.intro (HBW.out.trans hkp) hkf.size))
        clear hJ3 hkp hkf
        gi_wp2_with fail
        go_roundw
        case rel =>
          obtain ⟨hJ3, hb3, hz3⟩ := E1.out
          have := HM.out
          exact ⟨i + 1, _, by omega, by congr 1; omega, by simp [HL.out], HS.out, hJ3, hb3, by omega⟩
        case measure => first | (simp [intOf]; done) | (simp [intOf]; omega)
      · have E1 := Lib.hid hJx3
        clear hJx3 hkf
        gi_wp2_with fail
        refine bodyPost_ret (results_none rfl _ _ _) rfl ?_
        exact ⟨⟨_, rfl⟩, .inr ⟨_, by rw [HS.out]; exact List.take_prefix _ _, E1.out⟩⟩
    · obtain rfl : i = E.length := by omega
      have hmi : (E.length : Int) - 1 - (E.length : Int) = -1 := by omega
      rw [hmi]
      have E1 := Lib.hid (And.intro hP hJs)
      clear hP hJs hBw hmi
      gi_wp2_with fail
      go_end0
      exact ⟨⟨_, rfl⟩, .inl ⟨pre, by rw [E1.out.1, List.take_of_length_le (by rw [List.length_reverse]; exact Nat.le_refl _)], E1.out.2⟩⟩
/-- The two as functions that are ranged over. -/
theorem all_yields (E : List Eg) (hE : ∀ e ∈ E, e.Ok) (h30 : E.length ≤ 100000) (Bs n₀ : Nat) (v : Value) (w : World) (hn : n₀ ≤ w.heap.size) (hBs : Bs < n₀) (hB : w.heap[Bs]? = some (.cells #[v] 55 (0, 0))) (hR : RowE n₀ w v E) :
    Yields Try.prog 34 #[.pointer (some ⟨Bs, 0, none⟩)] iedE (Below n₀) (fun xs => egsOf xs = E) (fun pre => egsOf pre <+: E) E.length w :=
  fun l J Jx W hW hJ _ hY h0 => all1_in E hE h30 l Bs n₀ v J Jx W hJ (Nat.le_trans hn hW.size) hY hBs ((hW.block Bs (by omega)).trans hB) (hR.below ⟨hW.os, hW.tape, hW.output, hW.size, fun k hk => hW.block k (by omega)⟩) h0
theorem back_yields (E : List Eg) (hE : ∀ e ∈ E, e.Ok) (h30 : E.length ≤ 100000) (Bs n₀ : Nat) (v : Value) (w : World) (hn : n₀ ≤ w.heap.size) (hBs : Bs < n₀) (hB : w.heap[Bs]? = some (.cells #[v] 55 (0, 0))) (hR : RowE n₀ w v E) :
    Yields Try.prog 35 #[.pointer (some ⟨Bs, 0, none⟩)] iedE (Below n₀) (fun xs => egsOf xs = E.reverse) (fun pre => egsOf pre <+: E.reverse) E.length w :=
  fun l J Jx W hW hJ _ hY h0 => back1_in E hE h30 l Bs n₀ v J Jx W hJ (Nat.le_trans hn hW.size) hY hBs ((hW.block Bs (by omega)).trans hB) (hR.below ⟨hW.os, hW.tape, hW.output, hW.size, fun k hk => hW.block k (by omega)⟩) h0
set_option maxHeartbeats 800000 in
theorem all_any (v : Value) (hv : ∃ a n c, v = .slice a n c) (w : World) :
    Calls Try.prog 27 #[v] w fun e w' => e = .returned (.func (.func 34) #[] #[.pointer (some ⟨w.heap.size, 0, none⟩)]) ∧ w' = w.alloc (.cells #[v] 55) := by
  obtain ⟨a, n, c, rfl⟩ := hv
  go_enter Try.func27, Try.ntmps27
  go_wp2
  go_ret
  exact ⟨rfl, rfl⟩
set_option maxHeartbeats 800000 in
theorem back_any (v : Value) (hv : ∃ a n c, v = .slice a n c) (w : World) :
    Calls Try.prog 28 #[v] w fun e w' => e = .returned (.func (.func 35) #[] #[.pointer (some ⟨w.heap.size, 0, none⟩)]) ∧ w' = w.alloc (.cells #[v] 55) := by
  obtain ⟨a, n, c, rfl⟩ := hv
  go_enter Try.func28, Try.ntmps28
  go_wp2
  go_ret
  exact ⟨rfl, rfl⟩
set_option maxHeartbeats 800000 in
theorem mwalk_any (g : Nat) (lb : Array Value) (s : Int) (w : World) :
    Calls Try.prog 26 #[.func (.func g) #[] lb, .int .i64 s] w fun e w' => e = .returned (.func (.func 33) #[] #[.pointer (some ⟨w.heap.size, 0, none⟩), .pointer (some ⟨w.heap.size + 1, 0, none⟩)]) ∧ w' = (w.alloc (.cells #[.func (.func g) #[] lb] 61)).alloc (.cells #[.int .i64 s] 63) := by
  go_enter Try.func26, Try.ntmps26
  go_wp2
  go_ret
  exact ⟨by simp [World.size_alloc], rfl⟩
end Go.Proofs.Ytkbjmcgnjhpkiaa.W
