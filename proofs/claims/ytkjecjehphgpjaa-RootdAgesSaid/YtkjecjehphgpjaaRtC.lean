import Derived.Test.YtkjecjehphgpjaaRtA
import Derived.Test.YtkjecjehphgpjaaPlA
import Derived.Test.YtkjecjehphgpjaaStX
import Derived.Test.YtkjecjehphgpjaaStK
import Derived.Test.YtkjecjehphgpjaaRcA
import Derived.Test.YtkjecjehphgpjaaFixD
import Derived.Test.YtkjecjehphgpjaaHdZ
import Derived.Test.YtkjecjehphgpjaaEdA
import Derived.Test.YtkjecjehphgpjaaFixB
import Derived.Test.YtkjecjehphgpjaaQtB
import Derived.Test.YtkjecjehphgpjaaChecked
import Derived.Test.YtkjecjehphgpjaaRows
import Derived.Test.YtkjecjehphgpjaaWdefs
import Derived.Test.YtkjecjehphgpjaaFixC
import Derived.Test.YtkjecjehphgpjaaSlA
import Derived.WalkKit
import Derived.Lib.QuietBelow
import Derived.Lib.Hide
import Derived.BigQuiet
import Derived.Deep.LoopGhost
import Derived.WalkSpells
import Derived.Handy
import Derived.Maps.OwnSet
import Derived.Maps.OwnOps
import Derived.Laws.CopyRow
import Derived.WalkLawsBesides
import Derived.Lib.Zigzag
import Derived.OwnWalk
import Derived.Test.YtkjecjehphgpjaaSmA
import Derived.Test.YtkjecjehphgpjaaWideA
import Derived.Test.YtkjecjehphgpjaaBgA
import Derived.Laws.MakeOwn
import Derived.Laws.CopyOwn
import Derived.Laws.IdiomCopy
import Derived.RegionCalls
import Derived.Deep.RegionHeld3
import Derived.Deep.DeepCutAuto
import Derived.OneCell
import Derived.RegionTactic
/- Layer 15's own code, walked: sums, how far a server is, whether it is fit, its span (written by wip/genRtB.py). -/
namespace Go.Proofs.Ytkjecjehphgpjaa.W
open Go.RowKit Go.Sort Go.ChangeShapes Go.WideShapes
set_option linter.unusedVariables false
set_option linter.unusedSimpArgs false
abbrev pmV (p : Pm) : Array Value := #[.int .i64 p.step, .int .i64 p.watch, .int .i64 p.panic, .int .i64 p.maxrate, .int .i64 p.phi, .int .i64 p.maxdist, .int .i64 p.gate, .int .i64 p.minpoll, .int .i64 p.maxpoll, .int .i64 p.burst, .int .i64 p.minsane, .int .i64 p.minleft]
abbrev svV (s : Sv) : Array Value := #[.int .i64 s.leap, .int .i64 s.str, .int .u32 s.ref, .int .i64 s.del, .int .i64 s.disp, .int .i64 s.t.off, .int .i64 s.t.del, .int .i64 s.t.disp, .int .i64 s.t.jit, .int .i64 s.t.at_, .int .u8 s.reg]
theorem two_in15 {w : World} {b : Nat} {x y : Value} {t : TypeId} (h : w.heap[b]? = some (.cells #[x, y] t (0, 0))) : w.cell? ⟨b, 0, none⟩ = some x ∧ w.cell? ⟨b, 1, none⟩ = some y := by constructor <;> simp [World.cell?, h]
theorem eleven_in {w : World} {p : Nat} {a0 a1 a2 a3 a4 a5 a6 a7 a8 a9 a10 : Value} {t : TypeId} (h : w.heap[p]? = some (.cells #[a0, a1, a2, a3, a4, a5, a6, a7, a8, a9, a10] t (0, 0))) :
    w.cell? ⟨p, 0, none⟩ = some a0 ∧ w.cell? ⟨p, 1, none⟩ = some a1 ∧ w.cell? ⟨p, 2, none⟩ = some a2 ∧ w.cell? ⟨p, 3, none⟩ = some a3 ∧ w.cell? ⟨p, 4, none⟩ = some a4 ∧ w.cell? ⟨p, 5, none⟩ = some a5 ∧ w.cell? ⟨p, 6, none⟩ = some a6 ∧ w.cell? ⟨p, 7, none⟩ = some a7 ∧ w.cell? ⟨p, 8, none⟩ = some a8 ∧ w.cell? ⟨p, 9, none⟩ = some a9 ∧ w.cell? ⟨p, 10, none⟩ = some a10 := by
  refine ⟨?_, ?_, ?_, ?_, ?_, ?_, ?_, ?_, ?_, ?_, ?_⟩ <;> simp [World.cell?, h]
theorem below_again {v v' : World} (h : ∃ p : Regrown, v' = grow (redrawn v p.d) p.os) : Below v.heap.size v v' := by
  obtain ⟨p, rfl⟩ := h
  exact below_regrown v p.d p.os
theorem info_sv15 : (Try.prog.info? 26).map (·.size) = some 11 := by kernel_rfl
theorem load_sv15 {w : World} {b : Nat} {C : Array Value} {t : TypeId} (h : w.heap[b]? = some (.cells C t (0, 0))) (hn : C.size = 11) : (Instr.loadAt 26 (.pointer (some ⟨b, 0, none⟩))).run Try.prog w = .ok (.agg C) w := by
  have := run_loadVar_row (P := Try.prog) w b t 26 C (0, 0) _ h Try.underlying26 rfl (by rw [info_sv15, hn])
  simp only [Instr.loadAt, Instr.sureAddr, Sem.run_bind, Sem.run_pure, Result.andThen_ok, this]
section
variable {ops : Array Oper} {Q : Exit → Act → World → Prop} {rest : List Oper} {o : Oper} {a : Act} {w : World}
theorem at_load_sv15 (hgd : o.guard = none) (x : Operand) (ho : o.op = .load 26 x) (b : Nat) (hx : a.eval x = .pointer (some ⟨b, 0, none⟩)) {C : Array Value} {t : TypeId} (hC : w.heap[b]? = some (.cells C t (0, 0))) (hn : C.size = 11) (h : wpList Try.prog ops Q rest (a.put o.dst (.agg C)) w) : wpList Try.prog ops Q (o :: rest) a w :=
  wpList_plain hgd fun K hK => by
    unfold Oper.wp execOp
    simp only [ho, hx, Sem.run_bind, load_sv15 hC hn, Result.andThen_ok, Sem.run_pure]
    exact hK _ _ h
end
theorem run_min15 (a b m : Int) (h : min a b = m) (ts : Array TypeId) (t : TypeId) (w : World) : (Builtin.min_ ts t #[.int .i64 a, .int .i64 b]).run Try.prog w = .ok (.int .i64 m) w := by
  subst h
  rcases Int.lt_trichotomy a b with h | rfl | h
  · simp [Builtin.min_, Builtin.min2, show min a b = a by omega, h, show ¬ b < a by omega]
  · simp [Builtin.min_, Builtin.min2]
  · simp [Builtin.min_, Builtin.min2, show min a b = b by omega, h, show ¬ a < b by omega]
theorem run_max15 (a b m : Int) (h : max a b = m) (ts : Array TypeId) (t : TypeId) (w : World) : (Builtin.max_ ts t #[.int .i64 a, .int .i64 b]).run Try.prog w = .ok (.int .i64 m) w := by
  subst h
  rcases Int.lt_trichotomy a b with h | rfl | h
  · simp [Builtin.max_, Builtin.max2, show max a b = b by omega, h, show ¬ b < a by omega]
  · simp [Builtin.max_, Builtin.max2]
  · simp [Builtin.max_, Builtin.max2, show max a b = a by omega, h, show ¬ a < b by omega]
theorem two_box (w : World) (A C : Array Value) (ta tb : TypeId) : ((w.alloc (.cells A ta)).alloc (.cells C tb)).heap[w.heap.size]? = some (.cells A ta (0, 0)) ∧ ((w.alloc (.cells A ta)).alloc (.cells C tb)).heap[w.heap.size + 1]? = some (.cells C tb (0, 0)) ∧ Below w.heap.size w ((w.alloc (.cells A ta)).alloc (.cells C tb)) ∧ ((w.alloc (.cells A ta)).alloc (.cells C tb)).heap.size = w.heap.size + 2 := by
  refine ⟨laid _ (heap_alloc_new w _), ?_, ((Below.refl w.heap.size w).alloc (Nat.le_refl _) _).alloc (by simp) _, by simp [World.size_alloc]⟩
  have := heap_alloc_new (w.alloc (.cells A ta)) (.cells C tb)
  simpa [World.size_alloc] using this
/-- Terms, added one by one. -/
def i64E (x : Int) : List Value := [.int .i64 x]
def sumT (l : List Int) (k : Nat) : Int := (l.take k).foldl addI 0
theorem sumT_range (l : List Int) (k : Nat) : -9223372036854775807 ≤ sumT l k ∧ sumT l k ≤ 9223372036854775807 := by
  unfold sumT
  have : ∀ (m : List Int) (s : Int), -9223372036854775807 ≤ s ∧ s ≤ 9223372036854775807 → -9223372036854775807 ≤ m.foldl addI s ∧ m.foldl addI s ≤ 9223372036854775807 := by
    intro m
    induction m with
    | nil => exact fun s h => h
    | cons x m ih => exact fun s h => ih _ (addI_range s x)
  exact this _ 0 (by decide)
theorem sumT_next {l : List Int} {k : Nat} {x : Int} (h : l[k]? = some x) : sumT l (k + 1) = addI (sumT l k) x := by
  unfold sumT
  rw [take_next l k x h, List.foldl_append]
  rfl
theorem sumT_all (l : List Int) : sumT l l.length = l.foldl addI 0 := by unfold sumT; rw [List.take_length]
theorem addI_none {x : Int} (h : -9223372036854775807 ≤ x ∧ x ≤ 9223372036854775807) : addI 0 x = x := by
  unfold addI cutI
  omega
set_option maxHeartbeats 3200000 in
theorem tsum_any (l : List Int) (hl : l.length < 4611686018427387904) (tl : ∀ x ∈ l, -9223372036854775808 ≤ x ∧ x ≤ 9223372036854775807) {F : Nat → Prop} {v : Value} (w : World) (hs : SlAt F 1 i64E w v l) :
    Calls Try.prog 17 #[v] w fun e w' => e = .returned (.int .i64 (l.foldl addI 0)) ∧ w = w' := by
  rcases hs with ⟨a, c, rfl, _, rfl⟩ | ⟨b, off, cap, rfl, _, hc⟩
  · go_enter Try.func17, Try.ntmps17
    go_wp2_with fail
    refine wp_loop_rounds 1 ?_
    rw [rounds_succ]
    go_wp2_with fail
    go_ret
    exact ⟨rfl, rfl⟩
  · have HC : Hid (∀ (i : Nat) (x : Int), l[i]? = some x → w.cell? ⟨b, off + i, none⟩ = some (.int .i64 x)) := fun i x hx => by
      have := hc i x hx 0 (.int .i64 x) rfl
      rw [Nat.mul_one, Nat.add_zero] at this
      exact this
    have TL := Lib.hid tl
    rw [← sumT_all]
    obtain ⟨n, hn⟩ : ∃ n, l.length = n := ⟨_, rfl⟩
    have HN := Lib.hid hn
    rw [hn] at hl ⊢
    clear hc tl hn
    go_enter Try.func17, Try.ntmps17
    go_wp2_with fail
    go_loopg [3, 8] n (fun g va vi wr => ∃ i : Nat, vi = .int .i64 i ∧ i ≤ n ∧ n - i ≤ g ∧ va = .int .i64 (sumT l i) ∧ w = wr)
    case atStart => exact ⟨0, rfl, Nat.zero_le _, Nat.le_refl _, rfl, rfl⟩
    case round =>
      obtain ⟨i, rfl, hin, hg, rfl, hw⟩ := hrel
      by_cases hlt : i < n
      · have hltz : (i : Int) < (n : Int) := by omega
        obtain ⟨x, hx, hm⟩ := at_index l i (by rw [HN.out]; exact hlt)
        have ci := HC.out i x hx
        rw [hw] at ci
        have tx := TL.out x hm
        have sr := sumT_range l i
        have c := add_any (sumT l i) x (by omega) sr.2 tx.1 tx.2
        rw [← sumT_next hx] at c
        generalize sumT l i = s0 at c
        generalize hs1 : sumT l (i + 1) = s1 at c
        have HS := Lib.hid hs1
        have i0 : (0 : Int) ≤ (i : Int) := by omega
        clear hx hm tx sr hs1
        go_wp2_with fail
        (with_reducible refine (c _).mono ?_)
        rintro e w1 ⟨rfl, hw1⟩
        have HW := Lib.hid (hw.trans hw1)
        clear hw1 c ci
        go_wp2_with fail
        go_roundg (n - (i + 1))
        case measure => omega
        case rel => exact ⟨i + 1, by go_num, by omega, by omega, by rw [HS.out], HW.out⟩
      · obtain rfl : i = n := by omega
        have hltz : ¬ (i : Int) < (i : Int) := by omega
        have HW := Lib.hid hw
        clear hw
        go_wp2_with fail
        go_ret
        exact ⟨rfl, HW.out⟩
theorem lit_sl (w : World) (xs : List Int) (t : TypeId) (cap : Nat) : SlAt (fun b => b = w.heap.size) 1 i64E (w.alloc (.cells (xs.map fun x => Value.int .i64 x).toArray t)) (.slice (some ⟨w.heap.size, 0, none⟩) xs.length cap) xs := by
  refine .inr ⟨_, 0, cap, rfl, rfl, fun i x hx j u hu => ?_⟩
  have hj : j = 0 := by
    have := (List.getElem?_eq_some_iff.1 hu).1
    simp [i64E] at this
    exact this
  subst hj
  simp [i64E] at hu
  subst hu
  have := heap_alloc_new w (.cells (xs.map fun x => Value.int .i64 x).toArray t)
  simp only [World.cell?, this, Option.bind_some]
  simp [hx]
set_option maxRecDepth 100000 in
set_option maxHeartbeats 12800000 in
theorem tdist_any (p : Pm) (tp : p.Typed) (s : Sv) (ts : s.Typed) (at_ : Int) (a0 : -9223372036854775808 ≤ at_ ∧ at_ ≤ 9223372036854775807) (w : World) :
    Calls Try.prog 7 #[p.val, s.val, .int .i64 at_] w fun e w' => e = .returned (.int .i64 (distI p s at_)) ∧ Below w.heap.size w w' := by
  have hdel := ts.del
  have hdisp := ts.disp
  have htd := ts.t.del
  have htp := ts.t.disp
  have htj := ts.t.jit
  have hta := ts.t.at_
  have hph := tp.phi
  have c1 := add_any s.del s.t.del hdel.1 hdel.2 htd.1 htd.2
  obtain ⟨x1, e1⟩ : ∃ x, addI s.del s.t.del = x := ⟨_, rfl⟩
  have b1 := addI_range s.del s.t.del
  obtain ⟨x2, e2⟩ : ∃ x, max 21474836 x1 = x := ⟨_, rfl⟩
  rw [e1] at c1 b1
  have c2 := shift_any x2 (-1) (by omega) (by omega) (by decide) (by decide)
  obtain ⟨x3, e3⟩ : ∃ x, shiftI x2 (-1) = x := ⟨_, rfl⟩
  have b3 : -9223372036854775807 ≤ x3 ∧ x3 ≤ 9223372036854775807 := by
    rw [← e3]
    unfold shiftI
    rw [if_pos (by decide)]
    exact cutI_range _
  rw [e3] at c2
  have c5 := sub_any at_ s.t.at_ a0.1 a0.2 hta.1 hta.2
  obtain ⟨x6, e6⟩ : ∃ x, subI at_ s.t.at_ = x := ⟨_, rfl⟩
  have b6 := subI_range at_ s.t.at_
  rw [e6] at c5 b6
  obtain ⟨x7, e7⟩ : ∃ x, max x6 0 = x := ⟨_, rfl⟩
  have e7' : max 0 x6 = x7 := by rw [← e7]; omega
  have c6 := fmul_any p.phi x7 hph.1 hph.2 (by omega) (by omega)
  obtain ⟨x8, e8⟩ : ∃ x, mulI p.phi x7 = x := ⟨_, rfl⟩
  have b8 := mulI_range' p.phi x7
  rw [e8] at c6 b8
  have hD : [x3, s.disp, s.t.disp, x8, s.t.jit].foldl addI 0 = distI p s at_ := by
    unfold distI dist0
    rw [e1, e2, e3, e6, e7', e8]
    simp only [List.foldl_cons, List.foldl_nil]
    rw [addI_none b3]
  have cs := fun (W : World) => tsum_any [x3, s.disp, s.t.disp, x8, s.t.jit] (by simp) (by
    intro x hx
    simp only [List.mem_cons, List.not_mem_nil, or_false] at hx
    rcases hx with rfl | rfl | rfl | rfl | rfl
    · omega
    · exact hdisp
    · exact htp
    · omega
    · exact htj) _ (lit_sl W [x3, s.disp, s.t.disp, x8, s.t.jit] 2 5)
  rw [hD] at cs
  change ∀ W : World, Calls Try.prog 17 #[.slice (some ⟨W.heap.size, 0, none⟩) 5 5] (W.alloc (.cells #[.int .i64 x3, .int .i64 s.disp, .int .i64 s.t.disp, .int .i64 x8, .int .i64 s.t.jit] 2)) (fun e w' => e = .returned (.int .i64 (distI p s at_)) ∧ W.alloc (.cells #[.int .i64 x3, .int .i64 s.disp, .int .i64 s.t.disp, .int .i64 x8, .int .i64 s.t.jit] 2) = w') at cs
  generalize distI p s at_ = D at *
  have m1 := fun ts t => run_max15 21474836 x1 x2 e2 ts t
  have m2 := fun ts t => run_max15 x6 0 x7 e7 ts t
  have HH := Lib.hid (two_box w (pmV p) (svV s) 28 26)
  unfold pmV svV at HH
  unfold Pm.val Sv.val at *
  clear e1 e2 e3 e6 e7 e7' e8 hD hdel hdisp htd htp htj hta hph b1 b3 b6 b8
  go_enter Try.func7, Try.ntmps7
  go_wp2_with fail
  (with_reducible refine (c1 _).mono ?_)
  rintro e w1 ⟨rfl, rfl⟩
  clear c1
  go_upto_region 2 with fail
  clear m1
  obtain ⟨hp, hs, B, hz⟩ := HH.out
  clear HH
  generalize ((w.alloc (.cells #[.int .i64 p.step, .int .i64 p.watch, .int .i64 p.panic, .int .i64 p.maxrate, .int .i64 p.phi, .int .i64 p.maxdist, .int .i64 p.gate, .int .i64 p.minpoll, .int .i64 p.maxpoll, .int .i64 p.burst, .int .i64 p.minsane, .int .i64 p.minleft] 28)).alloc (.cells #[.int .i64 s.leap, .int .i64 s.str, .int .u32 s.ref, .int .i64 s.del, .int .i64 s.disp, .int .i64 s.t.off, .int .i64 s.t.del, .int .i64 s.t.disp, .int .i64 s.t.jit, .int .i64 s.t.at_, .int .u8 s.reg] 26)) = w1 at *
  obtain ⟨s0, s1, s2, s3, s4, s5, s6, s7, s8, s9, s10⟩ := eleven_in hs
  obtain ⟨a0', a1, a2, a3, a4, a5, a6, a7, a8, a9, a10, a11⟩ := twelve_atK hp
  have k9 := cell_regrown s9
  have ka4 := cell_regrown a4
  have d5 := fun d os => (Calls.regrown_of ((c5 (grow (redrawn w1 d) os)).mono fun e w' h => And.intro h.1 (h.2 ▸ Below.refl _ _)))
  have d6 := fun d os => Calls.regrown_of (c6 (grow (redrawn w1 d) os))
  have HS := Lib.hid hs
  clear s0 s1 s2 s3 s4 s5 s6 s7 s8 s10 a0' a1 a2 a3 a5 a6 a7 a8 a9 a10 a11 s9 a4 hs hp c5 c6
  refine wp_region_quiet_below (by kernel_rfl) (by kernel_rfl) ?_
  repeat (quiet_step (first | (with_reducible exact d5 _ _) | (with_reducible exact d6 _ _)))
  refine wpQuiet_nil ?_
  intro w2 hw
  replace hw := below_again hw
  have hs := kept HS.out hw
  replace B := B.trans (hw.mono B.size)
  clear k9 ka4 d5 d6 m2 hw HS hz
  go_upto_region 3 with fail
  obtain ⟨s0, s1, s2, s3, s4, s5, s6, s7, s8, s9, s10⟩ := eleven_in hs
  have k4 := cell_regrown s4
  have k7 := cell_regrown s7
  have k8 := cell_regrown s8
  have d2 := fun d os => (Calls.regrown_of ((c2 (grow (redrawn w2 d) os)).mono fun e w' h => And.intro h.1 (h.2 ▸ Below.refl _ _)))
  clear s0 s1 s2 s3 s4 s5 s6 s7 s8 s9 s10 hs c2
  refine wp_region_below_tail 11 (by kernel_rfl) (by kernel_rfl) ?_
  simp only [List.take_succ_cons, List.take_zero, List.drop_succ_cons, List.drop_zero]
  repeat (quiet_step (first | (with_reducible exact d2 _ _)))
  refine wpQuiet_nil ?_
  intro w3 hw
  replace hw := below_again hw
  have B2 := (B.trans (hw.mono B.size)).alloc (Nat.le_trans B.size hw.size) (.cells #[.int .i64 x3, .int .i64 s.disp, .int .i64 s.t.disp, .int .i64 x8, .int .i64 s.t.jit] 2)
  have c := cs w3
  have HB := Lib.hid B2
  clear hw B B2 cs d2 k4 k7 k8
  go_wp2_with fail
  (with_reducible refine c.mono ?_)
  rintro e w4 ⟨rfl, rfl⟩
  go_wp2_with fail
  go_ret
  exact ⟨rfl, HB.out⟩
set_option maxRecDepth 100000 in
set_option maxHeartbeats 3200000 in
theorem ttime_any (s : Sv) (w : World) : Calls Try.prog 19 #[s.val] w fun e w' => e = .returned (.bool (decide (s.leap ≠ 3 ∧ 1 ≤ s.str ∧ s.str ≤ 15))) ∧ Below w.heap.size w w' := by
  have hB := (Below.refl w.heap.size w).alloc (Nat.le_refl _) (.cells (svV s) 26)
  obtain ⟨le, st, re, de, di, t, rg⟩ := s
  obtain ⟨t0, t1, t2, t3, t4⟩ := t
  unfold Sv.val svV at *
  dsimp only at *
  by_cases h1 : le = 3
  · subst h1
    rw [show decide ((3 : Int) ≠ 3 ∧ 1 ≤ st ∧ st ≤ 15) = false by simp]
    go_enter Try.func19, Try.ntmps19
    go_wp2_with fail
    go_ret
    exact ⟨rfl, hB⟩
  · have g1 : (le != 3) = true := by simpa using h1
    by_cases h2 : 1 ≤ st
    · by_cases h3 : st ≤ 15
      · rw [show decide (le ≠ 3 ∧ 1 ≤ st ∧ st ≤ 15) = true from decide_eq_true ⟨h1, h2, h3⟩]
        go_enter Try.func19, Try.ntmps19
        go_wp2_with fail
        go_ret
        exact ⟨rfl, hB⟩
      · rw [show decide (le ≠ 3 ∧ 1 ≤ st ∧ st ≤ 15) = false from decide_eq_false fun h => h3 h.2.2]
        go_enter Try.func19, Try.ntmps19
        go_wp2_with fail
        go_ret
        exact ⟨rfl, hB⟩
    · rw [show decide (le ≠ 3 ∧ 1 ≤ st ∧ st ≤ 15) = false from decide_eq_false fun h => h2 h.2.1]
      go_enter Try.func19, Try.ntmps19
      go_wp2_with fail
      go_ret
      exact ⟨rfl, hB⟩
set_option maxRecDepth 100000 in
set_option maxHeartbeats 3200000 in
theorem tfed_any (s : Sv) (own : Int) (w : World) : Calls Try.prog 21 #[s.val, .int .u32 own] w fun e w' => e = .returned (.bool (decide (1 < s.str ∧ s.ref = own))) ∧ Below w.heap.size w w' := by
  have hB := (Below.refl w.heap.size w).alloc (Nat.le_refl _) (.cells (svV s) 26)
  obtain ⟨le, st, re, de, di, t, rg⟩ := s
  obtain ⟨t0, t1, t2, t3, t4⟩ := t
  unfold Sv.val svV at *
  dsimp only at *
  by_cases h2 : 1 < st
  · by_cases h3 : re = own
    · rw [show decide (1 < st ∧ re = own) = true from decide_eq_true ⟨h2, h3⟩]
      have g3 : (re == own) = true := by simpa using h3
      clear h3
      go_enter Try.func21, Try.ntmps21
      go_wp2_with fail
      go_ret
      exact ⟨rfl, hB⟩
    · rw [show decide (1 < st ∧ re = own) = false from decide_eq_false fun h => h3 h.2]
      have g3 : (re == own) = false := beq_eq_false_iff_ne.2 h3
      clear h3
      go_enter Try.func21, Try.ntmps21
      go_wp2_with fail
      go_ret
      exact ⟨rfl, hB⟩
  · rw [show decide (1 < st ∧ re = own) = false from decide_eq_false fun h => h2 h.1]
    go_enter Try.func21, Try.ntmps21
    go_wp2_with fail
    go_ret
    exact ⟨rfl, hB⟩
set_option maxRecDepth 100000 in
set_option maxHeartbeats 12800000 in
theorem tfar_any (p : Pm) (tp : p.Typed) (s : Sv) (ts : s.Typed) (poll at_ : Int) (p0 : -9223372036854775808 ≤ poll ∧ poll ≤ 9223372036854775807) (a0 : -9223372036854775808 ≤ at_ ∧ at_ ≤ 9223372036854775807) (w : World) :
    Calls Try.prog 20 #[p.val, s.val, .int .i64 poll, .int .i64 at_] w fun e w' => e = .returned (.bool (decide (limI p poll ≤ distI p s at_))) ∧ Below w.heap.size w w' := by
  have cd := tdist_any p tp s ts at_ a0
  have c1 : ∀ w, Calls Try.prog 30 #[.int .i64 poll] w fun e w' => e = .returned (.int .i64 (powI poll)) ∧ w = w' := pow_any poll p0.1 p0.2
  have hpw : -9223372036854775807 ≤ powI poll ∧ powI poll ≤ 9223372036854775807 := by
    unfold powI shiftI
    split <;> exact cutI_range _
  have hmd := tp.maxdist
  have hph := tp.phi
  have c2 := fmul_any p.phi (powI poll) hph.1 hph.2 (by omega) (by omega)
  have hml := mulI_range' p.phi (powI poll)
  have c3 := add_any p.maxdist (mulI p.phi (powI poll)) hmd.1 hmd.2 (by omega) (by omega)
  change ∀ w, Calls _ _ _ w fun e w' => e = .returned (.int .i64 (limI p poll)) ∧ w = w' at c3
  have HH := Lib.hid (two_box w (pmV p) (svV s) 28 26)
  unfold pmV svV at HH
  generalize limI p poll = LM at *
  generalize mulI p.phi (powI poll) = ML at *
  generalize powI poll = PW at *
  generalize distI p s at_ = D at *
  unfold Pm.val Sv.val at *
  clear hpw hmd hph hml tp ts
  go_enter Try.func20, Try.ntmps20
  go_upto_region 1 with fail
  obtain ⟨hp, hs, B, hz⟩ := HH.out
  clear HH hz
  generalize ((w.alloc (.cells #[.int .i64 p.step, .int .i64 p.watch, .int .i64 p.panic, .int .i64 p.maxrate, .int .i64 p.phi, .int .i64 p.maxdist, .int .i64 p.gate, .int .i64 p.minpoll, .int .i64 p.maxpoll, .int .i64 p.burst, .int .i64 p.minsane, .int .i64 p.minleft] 28)).alloc (.cells #[.int .i64 s.leap, .int .i64 s.str, .int .u32 s.ref, .int .i64 s.del, .int .i64 s.disp, .int .i64 s.t.off, .int .i64 s.t.del, .int .i64 s.t.disp, .int .i64 s.t.jit, .int .i64 s.t.at_, .int .u8 s.reg] 26)) = w1 at *
  have HP := Lib.hid (And.intro hp hs)
  obtain ⟨b0, b1, b2, b3, b4, b5, b6, b7, b8, b9, b10, b11⟩ := twelve_atK hp
  have kb4 := cell_regrown b4
  have d1 := fun d os => (Calls.regrown_of ((c1 (grow (redrawn w1 d) os)).mono fun e w' h => And.intro h.1 (h.2 ▸ Below.refl _ _)))
  have d2 := fun d os => Calls.regrown_of (c2 (grow (redrawn w1 d) os))
  clear b0 b1 b2 b3 b4 b5 b6 b7 b8 b9 b10 b11 hp hs c1 c2
  refine wp_region_quiet_below (by kernel_rfl) (by kernel_rfl) ?_
  repeat (quiet_step (first | (with_reducible exact d1 _ _) | (with_reducible exact d2 _ _)))
  refine wpQuiet_nil ?_
  intro w2 hw
  replace hw := below_again hw
  clear d1 d2 kb4
  replace B := B.trans (hw.mono B.size)
  have hp := kept HP.out.1 hw
  have hs := kept HP.out.2 hw
  clear HP hw
  go_upto_region 2 with fail
  obtain ⟨s0, s1, s2, s3, s4, s5, s6, s7, s8, s9, s10⟩ := eleven_in hs
  obtain ⟨b0, b1, b2, b3, b4, b5, b6, b7, b8, b9, b10, b11⟩ := twelve_atK hp
  have ks0 := cell_regrown s0
  have ks1 := cell_regrown s1
  have ks2 := cell_regrown s2
  have ks3 := cell_regrown s3
  have ks4 := cell_regrown s4
  have ks5 := cell_regrown s5
  have ks6 := cell_regrown s6
  have ks7 := cell_regrown s7
  have ks8 := cell_regrown s8
  have ks9 := cell_regrown s9
  have ks10 := cell_regrown s10
  have kb0 := cell_regrown b0
  have kb1 := cell_regrown b1
  have kb2 := cell_regrown b2
  have kb3 := cell_regrown b3
  have kb4 := cell_regrown b4
  have kb5 := cell_regrown b5
  have kb6 := cell_regrown b6
  have kb7 := cell_regrown b7
  have kb8 := cell_regrown b8
  have kb9 := cell_regrown b9
  have kb10 := cell_regrown b10
  have kb11 := cell_regrown b11
  have d0 := fun d os => Calls.regrown_of (cd (grow (redrawn w2 d) os))
  have d3 := fun d os => (Calls.regrown_of ((c3 (grow (redrawn w2 d) os)).mono fun e w' h => And.intro h.1 (h.2 ▸ Below.refl _ _)))
  clear s0 s1 s2 s3 s4 s5 s6 s7 s8 s9 s10 b0 b1 b2 b3 b4 b5 b6 b7 b8 b9 b10 b11 hs hp cd c3
  refine wp_region_quiet_below (by kernel_rfl) (by kernel_rfl) ?_
  repeat (quiet_step (first | (with_reducible exact d0 _ _) | (with_reducible exact d3 _ _)))
  refine wpQuiet_nil ?_
  intro w3 hw
  replace hw := below_again hw
  have HB := Lib.hid (B.trans (hw.mono B.size))
  clear d0 d3 B hw ks0 ks1 ks2 ks3 ks4 ks5 ks6 ks7 ks8 ks9 ks10 kb0 kb1 kb2 kb3 kb4 kb5 kb6 kb7 kb8 kb9 kb10 kb11
  go_wp2_with fail
  go_ret
  exact ⟨rfl, HB.out⟩
set_option maxRecDepth 100000 in
set_option maxHeartbeats 25600000 in
theorem tfit_any (p : Pm) (tp : p.Typed) (s : Sv) (ts : s.Typed) (own poll at_ : Int) (o0 : 0 ≤ own ∧ own ≤ 4294967295) (p0 : -9223372036854775808 ≤ poll ∧ poll ≤ 9223372036854775807) (a0 : -9223372036854775808 ≤ at_ ∧ at_ ≤ 9223372036854775807) (w : World) :
    Calls Try.prog 10 #[p.val, s.val, .int .u32 own, .int .i64 poll, .int .i64 at_] w fun e w' => e = .returned (.int .i64 (fitE p s own poll at_)) ∧ Below w.heap.size w w' := by
  have ct := ttime_any s
  have cf := tfar_any p tp s ts poll at_ p0 a0
  have cg := tfed_any s own
  have HH := Lib.hid (two_box w (pmV p) (svV s) 28 26)
  unfold pmV svV at HH
  unfold Pm.val Sv.val at *
  clear tp ts
  by_cases h1 : s.leap = 3 ∨ s.str < 1 ∨ 15 < s.str
  · rw [show fitE p s own poll at_ = 123 by unfold fitE; rw [if_pos h1]]
    rw [show decide (s.leap ≠ 3 ∧ 1 ≤ s.str ∧ s.str ≤ 15) = false from decide_eq_false (by omega)] at ct
    clear h1
    go_enter Try.func10, Try.ntmps10
    go_upto_region 1 with fail
    obtain ⟨hp, hs, B, hz⟩ := HH.out
    clear HH hz
    generalize ((w.alloc (.cells #[.int .i64 p.step, .int .i64 p.watch, .int .i64 p.panic, .int .i64 p.maxrate, .int .i64 p.phi, .int .i64 p.maxdist, .int .i64 p.gate, .int .i64 p.minpoll, .int .i64 p.maxpoll, .int .i64 p.burst, .int .i64 p.minsane, .int .i64 p.minleft] 28)).alloc (.cells #[.int .i64 s.leap, .int .i64 s.str, .int .u32 s.ref, .int .i64 s.del, .int .i64 s.disp, .int .i64 s.t.off, .int .i64 s.t.del, .int .i64 s.t.disp, .int .i64 s.t.jit, .int .i64 s.t.at_, .int .u8 s.reg] 26)) = w1 at *
    go_wp2_with (first | (refine at_load_sv15 rfl _ rfl _ rfl hs rfl ?_) | (refine at_load_pm10 rfl _ rfl _ rfl hp rfl ?_))
    (with_reducible refine (ct _).mono ?_)
    rintro e w2 ⟨rfl, hw⟩
    replace hp := kept hp hw
    replace hs := kept hs hw
    replace B := B.trans (hw.mono B.size)
    clear hw ct
    have HB := Lib.hid B
    clear B hp hs
    go_wp2_with fail
    go_ret
    exact ⟨rfl, HB.out⟩
  · rw [show decide (s.leap ≠ 3 ∧ 1 ≤ s.str ∧ s.str ≤ 15) = true from decide_eq_true (by omega)] at ct
    by_cases h2 : limI p poll ≤ distI p s at_
    · rw [show fitE p s own poll at_ = 124 by unfold fitE; rw [if_neg h1, if_pos h2]]
      rw [decide_eq_true h2] at cf
      clear h1 h2
      go_enter Try.func10, Try.ntmps10
      go_upto_region 1 with fail
      obtain ⟨hp, hs, B, hz⟩ := HH.out
      clear HH hz
      generalize ((w.alloc (.cells #[.int .i64 p.step, .int .i64 p.watch, .int .i64 p.panic, .int .i64 p.maxrate, .int .i64 p.phi, .int .i64 p.maxdist, .int .i64 p.gate, .int .i64 p.minpoll, .int .i64 p.maxpoll, .int .i64 p.burst, .int .i64 p.minsane, .int .i64 p.minleft] 28)).alloc (.cells #[.int .i64 s.leap, .int .i64 s.str, .int .u32 s.ref, .int .i64 s.del, .int .i64 s.disp, .int .i64 s.t.off, .int .i64 s.t.del, .int .i64 s.t.disp, .int .i64 s.t.jit, .int .i64 s.t.at_, .int .u8 s.reg] 26)) = w1 at *
      go_wp2_with (first | (refine at_load_sv15 rfl _ rfl _ rfl hs rfl ?_) | (refine at_load_pm10 rfl _ rfl _ rfl hp rfl ?_))
      (with_reducible refine (ct _).mono ?_)
      rintro e w2 ⟨rfl, hw⟩
      replace hp := kept hp hw
      replace hs := kept hs hw
      replace B := B.trans (hw.mono B.size)
      clear hw ct
      go_wp2_with (first | (refine at_load_sv15 rfl _ rfl _ rfl hs rfl ?_) | (refine at_load_pm10 rfl _ rfl _ rfl hp rfl ?_))
      (with_reducible refine (cf _).mono ?_)
      rintro e w3 ⟨rfl, hw⟩
      replace hp := kept hp hw
      replace hs := kept hs hw
      replace B := B.trans (hw.mono B.size)
      clear hw cf
      have HB := Lib.hid B
      clear B hp hs
      go_wp2_with fail
      go_ret
      exact ⟨rfl, HB.out⟩
    · rw [decide_eq_false h2] at cf
      by_cases h3 : 1 < s.str ∧ s.ref = own
      · rw [show fitE p s own poll at_ = 4 by unfold fitE; rw [if_neg h1, if_neg h2, if_pos h3]]
        rw [decide_eq_true h3] at cg
        clear h1 h2 h3
        go_enter Try.func10, Try.ntmps10
        go_upto_region 1 with fail
        obtain ⟨hp, hs, B, hz⟩ := HH.out
        clear HH hz
        generalize ((w.alloc (.cells #[.int .i64 p.step, .int .i64 p.watch, .int .i64 p.panic, .int .i64 p.maxrate, .int .i64 p.phi, .int .i64 p.maxdist, .int .i64 p.gate, .int .i64 p.minpoll, .int .i64 p.maxpoll, .int .i64 p.burst, .int .i64 p.minsane, .int .i64 p.minleft] 28)).alloc (.cells #[.int .i64 s.leap, .int .i64 s.str, .int .u32 s.ref, .int .i64 s.del, .int .i64 s.disp, .int .i64 s.t.off, .int .i64 s.t.del, .int .i64 s.t.disp, .int .i64 s.t.jit, .int .i64 s.t.at_, .int .u8 s.reg] 26)) = w1 at *
        go_wp2_with (first | (refine at_load_sv15 rfl _ rfl _ rfl hs rfl ?_) | (refine at_load_pm10 rfl _ rfl _ rfl hp rfl ?_))
        (with_reducible refine (ct _).mono ?_)
        rintro e w2 ⟨rfl, hw⟩
        replace hp := kept hp hw
        replace hs := kept hs hw
        replace B := B.trans (hw.mono B.size)
        clear hw ct
        go_wp2_with (first | (refine at_load_sv15 rfl _ rfl _ rfl hs rfl ?_) | (refine at_load_pm10 rfl _ rfl _ rfl hp rfl ?_))
        (with_reducible refine (cf _).mono ?_)
        rintro e w3 ⟨rfl, hw⟩
        replace hp := kept hp hw
        replace hs := kept hs hw
        replace B := B.trans (hw.mono B.size)
        clear hw cf
        go_wp2_with (first | (refine at_load_sv15 rfl _ rfl _ rfl hs rfl ?_) | (refine at_load_pm10 rfl _ rfl _ rfl hp rfl ?_))
        (with_reducible refine (cg _).mono ?_)
        rintro e w4 ⟨rfl, hw⟩
        replace hp := kept hp hw
        replace hs := kept hs hw
        replace B := B.trans (hw.mono B.size)
        clear hw cg
        obtain ⟨s0, s1, s2, s3, s4, s5, s6, s7, s8, s9, s10⟩ := eleven_in hs
        clear s0 s1 s2 s3 s4 s5 s6 s7 s8 s9
        have HB := Lib.hid B
        clear B hp hs
        go_wp2_with fail
        go_ret
        exact ⟨rfl, HB.out⟩
      · rw [decide_eq_false h3] at cg
        by_cases h4 : s.reg = 0
        · rw [show fitE p s own poll at_ = 3 by unfold fitE; rw [if_neg h1, if_neg h2, if_neg h3, if_pos h4]]
          have g4 : (s.reg == 0) = true := by simpa using h4
          clear h1 h2 h3 h4
          go_enter Try.func10, Try.ntmps10
          go_upto_region 1 with fail
          obtain ⟨hp, hs, B, hz⟩ := HH.out
          clear HH hz
          generalize ((w.alloc (.cells #[.int .i64 p.step, .int .i64 p.watch, .int .i64 p.panic, .int .i64 p.maxrate, .int .i64 p.phi, .int .i64 p.maxdist, .int .i64 p.gate, .int .i64 p.minpoll, .int .i64 p.maxpoll, .int .i64 p.burst, .int .i64 p.minsane, .int .i64 p.minleft] 28)).alloc (.cells #[.int .i64 s.leap, .int .i64 s.str, .int .u32 s.ref, .int .i64 s.del, .int .i64 s.disp, .int .i64 s.t.off, .int .i64 s.t.del, .int .i64 s.t.disp, .int .i64 s.t.jit, .int .i64 s.t.at_, .int .u8 s.reg] 26)) = w1 at *
          go_wp2_with (first | (refine at_load_sv15 rfl _ rfl _ rfl hs rfl ?_) | (refine at_load_pm10 rfl _ rfl _ rfl hp rfl ?_))
          (with_reducible refine (ct _).mono ?_)
          rintro e w2 ⟨rfl, hw⟩
          replace hp := kept hp hw
          replace hs := kept hs hw
          replace B := B.trans (hw.mono B.size)
          clear hw ct
          go_wp2_with (first | (refine at_load_sv15 rfl _ rfl _ rfl hs rfl ?_) | (refine at_load_pm10 rfl _ rfl _ rfl hp rfl ?_))
          (with_reducible refine (cf _).mono ?_)
          rintro e w3 ⟨rfl, hw⟩
          replace hp := kept hp hw
          replace hs := kept hs hw
          replace B := B.trans (hw.mono B.size)
          clear hw cf
          go_wp2_with (first | (refine at_load_sv15 rfl _ rfl _ rfl hs rfl ?_) | (refine at_load_pm10 rfl _ rfl _ rfl hp rfl ?_))
          (with_reducible refine (cg _).mono ?_)
          rintro e w4 ⟨rfl, hw⟩
          replace hp := kept hp hw
          replace hs := kept hs hw
          replace B := B.trans (hw.mono B.size)
          clear hw cg
          obtain ⟨s0, s1, s2, s3, s4, s5, s6, s7, s8, s9, s10⟩ := eleven_in hs
          clear s0 s1 s2 s3 s4 s5 s6 s7 s8 s9
          have HB := Lib.hid B
          clear B hp hs
          go_wp2_with fail
          go_ret
          exact ⟨rfl, HB.out⟩
        · rw [show fitE p s own poll at_ = 0 by unfold fitE; rw [if_neg h1, if_neg h2, if_neg h3, if_neg h4]]
          have g4 : (s.reg == 0) = false := beq_eq_false_iff_ne.2 h4
          clear h1 h2 h3 h4
          go_enter Try.func10, Try.ntmps10
          go_upto_region 1 with fail
          obtain ⟨hp, hs, B, hz⟩ := HH.out
          clear HH hz
          generalize ((w.alloc (.cells #[.int .i64 p.step, .int .i64 p.watch, .int .i64 p.panic, .int .i64 p.maxrate, .int .i64 p.phi, .int .i64 p.maxdist, .int .i64 p.gate, .int .i64 p.minpoll, .int .i64 p.maxpoll, .int .i64 p.burst, .int .i64 p.minsane, .int .i64 p.minleft] 28)).alloc (.cells #[.int .i64 s.leap, .int .i64 s.str, .int .u32 s.ref, .int .i64 s.del, .int .i64 s.disp, .int .i64 s.t.off, .int .i64 s.t.del, .int .i64 s.t.disp, .int .i64 s.t.jit, .int .i64 s.t.at_, .int .u8 s.reg] 26)) = w1 at *
          go_wp2_with (first | (refine at_load_sv15 rfl _ rfl _ rfl hs rfl ?_) | (refine at_load_pm10 rfl _ rfl _ rfl hp rfl ?_))
          (with_reducible refine (ct _).mono ?_)
          rintro e w2 ⟨rfl, hw⟩
          replace hp := kept hp hw
          replace hs := kept hs hw
          replace B := B.trans (hw.mono B.size)
          clear hw ct
          go_wp2_with (first | (refine at_load_sv15 rfl _ rfl _ rfl hs rfl ?_) | (refine at_load_pm10 rfl _ rfl _ rfl hp rfl ?_))
          (with_reducible refine (cf _).mono ?_)
          rintro e w3 ⟨rfl, hw⟩
          replace hp := kept hp hw
          replace hs := kept hs hw
          replace B := B.trans (hw.mono B.size)
          clear hw cf
          go_wp2_with (first | (refine at_load_sv15 rfl _ rfl _ rfl hs rfl ?_) | (refine at_load_pm10 rfl _ rfl _ rfl hp rfl ?_))
          (with_reducible refine (cg _).mono ?_)
          rintro e w4 ⟨rfl, hw⟩
          replace hp := kept hp hw
          replace hs := kept hs hw
          replace B := B.trans (hw.mono B.size)
          clear hw cg
          obtain ⟨s0, s1, s2, s3, s4, s5, s6, s7, s8, s9, s10⟩ := eleven_in hs
          clear s0 s1 s2 s3 s4 s5 s6 s7 s8 s9
          have HB := Lib.hid B
          clear B hp hs
          go_wp2_with fail
          go_ret
          exact ⟨rfl, HB.out⟩
set_option maxRecDepth 100000 in
set_option maxHeartbeats 12800000 in
theorem tspan_any (p : Pm) (tp : p.Typed) (s : Sv) (ts : s.Typed) (at_ : Int) (a0 : -9223372036854775808 ≤ at_ ∧ at_ ≤ 9223372036854775807) (w : World) :
    Calls Try.prog 8 #[p.val, s.val, .int .i64 at_] w fun e w' => e = .returned (.agg #[.int .i64 (lowI p s at_), .int .i64 (highI p s at_)]) ∧ Below w.heap.size w w' := by
  have cd := tdist_any p tp s ts at_ a0
  have dr := dist_range p s at_
  have hto := ts.t.off
  have c1 := sub_any s.t.off (distI p s at_) hto.1 hto.2 (by omega) (by omega)
  have c2 := add_any s.t.off (distI p s at_) hto.1 hto.2 (by omega) (by omega)
  change ∀ w, Calls _ _ _ w fun e w' => e = .returned (.int .i64 (lowI p s at_)) ∧ w = w' at c1
  change ∀ w, Calls _ _ _ w fun e w' => e = .returned (.int .i64 (highI p s at_)) ∧ w = w' at c2
  generalize lowI p s at_ = L at *
  generalize highI p s at_ = G at *
  generalize distI p s at_ = D at *
  have B := (((Below.refl w.heap.size w).alloc (Nat.le_refl _) (.cells (pmV p) 28)).alloc (by simp) (.cells (svV s) 26)).alloc (by simp; omega) (.cells #[.int .i64 0, .int .i64 0] 32)
  have hs : (((w.alloc (.cells (pmV p) 28)).alloc (.cells (svV s) 26)).alloc (.cells #[.int .i64 0, .int .i64 0] 32)).heap[w.heap.size + 1]? = some (.cells (svV s) 26 (0, 0)) := laid _ (by have := heap_alloc_new (w.alloc (.cells (pmV p) 28)) (.cells (svV s) 26); simpa [World.size_alloc] using this)
  have hr : (((w.alloc (.cells (pmV p) 28)).alloc (.cells (svV s) 26)).alloc (.cells #[.int .i64 0, .int .i64 0] 32)).heap[w.heap.size + 1 + 1]? = some (.cells #[.int .i64 0, .int .i64 0] 32 (0, 0)) := by
    have := heap_alloc_new ((w.alloc (.cells (pmV p) 28)).alloc (.cells (svV s) 26)) (.cells #[.int .i64 0, .int .i64 0] 32)
    simpa [World.size_alloc] using this
  have HH := Lib.hid (And.intro hs (And.intro hr B))
  unfold Pm.val Sv.val pmV svV at *
  clear hs hr B dr hto
  go_enter Try.func8, Try.ntmps8
  go_wp2_with fail
  (with_reducible refine (cd _).mono ?_)
  rintro e w1 ⟨rfl, hw⟩
  obtain ⟨hs, hr, B⟩ := HH.out
  replace hs := kept hs hw
  replace hr := kept hr hw
  replace B := B.trans (hw.mono B.size)
  clear HH hw cd
  obtain ⟨s0, s1, s2, s3, s4, s5, s6, s7, s8, s9, s10⟩ := eleven_in hs
  have k5 := cell_regrown s5
  have d1 := fun d os => (Calls.regrown_of ((c1 (grow (redrawn w1 d) os)).mono fun e w' h => And.intro h.1 (h.2 ▸ Below.refl _ _)))
  have d2 := fun d os => (Calls.regrown_of ((c2 (grow (redrawn w1 d) os)).mono fun e w' h => And.intro h.1 (h.2 ▸ Below.refl _ _)))
  clear s0 s1 s2 s3 s4 s5 s6 s7 s8 s9 s10 c1 c2 hs
  go_upto_region 2 with fail
  refine wp_region_below_tail 10 (by kernel_rfl) (by kernel_rfl) ?_
  simp only [List.take_succ_cons, List.take_zero, List.drop_succ_cons, List.drop_zero]
  repeat (quiet_step (first | (with_reducible exact d1 _ _) | (with_reducible exact d2 _ _)))
  refine wpQuiet_nil ?_
  intro w2 hw
  replace hw := below_again hw
  replace hr := kept hr hw
  replace B := B.trans (hw.mono B.size)
  clear hw k5 d1 d2
  have n1 := block_set 1 (.int .i64 G) (block_set 0 (.int .i64 L) hr)
  have B1 := (B.setCell (p := ⟨w.heap.size + 1 + 1, 0, none⟩) (by show w.heap.size ≤ w.heap.size + 1 + 1; omega) (.int .i64 L)).setCell (p := ⟨w.heap.size + 1 + 1, 1, none⟩) (by show w.heap.size ≤ w.heap.size + 1 + 1; omega) (.int .i64 G)
  obtain ⟨r0, r1⟩ := two_in15 hr
  have fz := bc_frozenK hr
  have EE := Lib.hid (And.intro n1 B1)
  clear n1 B1 hr B
  go_wp2_with fail
  obtain ⟨q0, q1⟩ := two_in15 EE.out.1
  refine bodyPost_ret (v := .agg #[.int .i64 L, .int .i64 G]) ?_ rfl ?_
  · simp [results, Try.results8, go_sem, q0, q1]
  · exact ⟨rfl, EE.out.2⟩
end Go.Proofs.Ytkjecjehphgpjaa.W

/- Layer 15's own code, walked: a number many times over, and a server's metric. -/
namespace Go.Proofs.Ytkjecjehphgpjaa.W
open Go.RowKit Go.Sort
set_option linter.unusedVariables false
set_option linter.unusedSimpArgs false
set_option maxHeartbeats 3200000 in
theorem mul64_one (n : Nat) (hn : n ≤ 16) (w : World) : Calls Try.prog 66 #[.int .u64 1, .int .u64 n] w fun e w' => e = .returned (.tuple #[.int .u64 0, .int .u64 n]) ∧ w = w' := by
  have h : n = 0 ∨ n = 1 ∨ n = 2 ∨ n = 3 ∨ n = 4 ∨ n = 5 ∨ n = 6 ∨ n = 7 ∨ n = 8 ∨ n = 9 ∨ n = 10 ∨ n = 11 ∨ n = 12 ∨ n = 13 ∨ n = 14 ∨ n = 15 ∨ n = 16 := by omega
  have a1 : bits .and .u64 1 4294967295 = 1 := by kernel_rfl
  have an : bits .and .u64 (n : Int) 4294967295 = n := by
    clear a1
    rcases h with rfl | rfl | rfl | rfl | rfl | rfl | rfl | rfl | rfl | rfl | rfl | rfl | rfl | rfl | rfl | rfl | rfl <;> kernel_rfl
  have a0 : bits .and .u64 0 4294967295 = 0 := by kernel_rfl
  have d0 : (n : Int) / 4294967296 = 0 := by omega
  have w0 : IntKind.u64.wrap (n : Int) = n := by rw [IntKind.wrap_u64]; omega
  clear h
  go_enter Try.func66, Try.ntmps66
  go_wp2_with fail
  refine bodyPost_ret (v := .tuple #[.int .u64 0, .int .u64 n]) ?_ rfl ⟨rfl, rfl⟩
  simp [results, Try.results66, go_sem]
theorem mul_one (n : Nat) (hn : n ≤ 16) (w : World) : Calls Try.prog 31 #[.int .u64 1, .int .u64 n] w fun e w' => e = .returned (.tuple #[.int .u64 0, .int .u64 n]) ∧ w = w' := by
  have c := mul64_one n hn
  have w0 : IntKind.u64.wrap (n : Int) = n := by rw [IntKind.wrap_u64]; omega
  go_enter Try.func31, Try.ntmps31
  go_wp2_with fail
  (with_reducible refine (c _).mono ?_)
  rintro e w1 ⟨rfl, rfl⟩
  go_wp2_with fail
  refine bodyPost_ret (v := .tuple #[.int .u64 0, .int .u64 n]) ?_ rfl ⟨rfl, rfl⟩
  simp [results, Try.results31, go_sem]
/-- A row that is filled: k places of it. -/
def rowM (m : Int) (n k : Nat) : Array Value := (List.replicate k (Value.int .i64 m) ++ List.replicate (n - k) (Value.int .i64 0)).toArray
theorem rowM_size (m : Int) (n k : Nat) (h : k ≤ n) : (rowM m n k).size = n := by simp [rowM]; omega
theorem rowM_zero (m : Int) (n : Nat) : madeCells #[.int .i64 0] (n * 1) = rowM m n 0 := by
  apply Array.ext_getElem?
  intro j
  rw [Nat.mul_one]
  by_cases h : j < n
  · simp [madeCells, rowM, h, Nat.mod_one]
  · rw [Array.getElem?_eq_none (by rw [size_madeCells]; omega), Array.getElem?_eq_none (by rw [rowM_size m n 0 (Nat.zero_le _)]; omega)]
theorem rowM_get (m : Int) (n k j : Nat) (h : j < k) : (rowM m n k)[j]? = some (.int .i64 m) := by
  unfold rowM
  rw [List.getElem?_toArray, List.getElem?_append_left (by simpa using h)]
  simp [h]
theorem rowM_fill (m : Int) (n k c : Nat) (h : k + c ≤ n) : ((rowM m n k).toList.take k ++ List.replicate c (Value.int .i64 m) ++ (rowM m n k).toList.drop (k + c)).toArray = rowM m n (k + c) := by
  have e1 : (List.replicate k (Value.int .i64 m) ++ List.replicate (n - k) (Value.int .i64 0)).take k = List.replicate k (Value.int .i64 m) := by
    rw [List.take_append_of_le_length (by simp), List.take_of_length_le (by simp)]
  have e2 : (List.replicate k (Value.int .i64 m) ++ List.replicate (n - k) (Value.int .i64 0)).drop (k + c) = List.replicate (n - (k + c)) (Value.int .i64 0) := by
    rw [List.drop_append, List.drop_of_length_le (by simp), List.nil_append, List.length_replicate, List.drop_replicate]
    congr 1
    omega
  unfold rowM
  show (List.take k (List.replicate k (Value.int .i64 m) ++ List.replicate (n - k) (Value.int .i64 0)) ++ List.replicate c (Value.int .i64 m) ++ List.drop (k + c) (List.replicate k (Value.int .i64 m) ++ List.replicate (n - k) (Value.int .i64 0))).toArray = _
  rw [e1, e2, List.replicate_append_replicate]
theorem info_int15 : (Try.prog.info? 2).map (fun i => (i.zero, i.size, i.bytes)) = some (some (.int .i64 0), 1, 8) := by kernel_rfl
theorem size_int15 : (Try.prog.info? 2).map (·.size) = some 1 := by kernel_rfl
set_option maxRecDepth 100000 in
set_option maxHeartbeats 6400000 in
theorem trep_any (m : Int) (n : Nat) (hn : n ≤ 16) (b0 cap : Nat) (w : World) (hx : w.cell? ⟨b0, 0, none⟩ = some (.int .i64 m)) (hb : b0 < w.heap.size) :
    Calls Try.prog 22 #[.slice (some ⟨b0, 0, none⟩) 1 cap, .int .i64 n] w fun e w' =>
      ∃ g, e = .returned (.slice (some ⟨g, 0, none⟩) n n) ∧ w'.ownsRow w.heap.size 2 1 (.slice (some ⟨g, 0, none⟩) n n) n (List.replicate n (.int .i64 m)) ∧ Below w.heap.size w w' := by
  obtain ⟨i0, hi, hz0, hz1, hz2⟩ := info_parts info_int15
  have mixed : Try.prog.follows .mixedOrders = true := by kernel_rfl
  have hmk : ∀ W, (Instr.makeSlice 52 (.int .i64 (n : Int)) (.int .i64 (n : Int))).run Try.prog W = .ok (.slice (some ⟨W.heap.size, 0, none⟩) n n) (W.alloc (.cells (rowM m n 0) 2)) := fun W => by
    have := run_make (P := Try.prog) W 52 2 i0 (.int .i64 0) Try.underlying52 hi hz0 .i64 .i64 n n (by omega) (Int.le_refl _) (by rw [hz2]; omega) (by omega)
    rw [hz1, show ((n : Int)).toNat = n by omega, show (Value.int IntKind.i64 0).cells = #[.int .i64 0] from rfl, rowM_zero m] at this
    exact this
  have c := mul_one n hn
  have w0 : IntKind.u64.wrap (n : Int) = n := by rw [IntKind.wrap_u64]; omega
  have w1 : IntKind.i64.wrap (n : Int) = n := by rw [IntKind.wrap_i64]; omega
  have h0 : ¬ (n : Int) < 0 := by omega
  have h1 : ¬ (9223372036854775807 : Int) < (n : Int) := by omega
  have h1b : decide ((9223372036854775807 : Int) < (n : Int)) = false := decide_eq_false h1
  have hB := (Below.refl w.heap.size w).alloc (Nat.le_refl _) (.cells (rowM m n 0) 2)
  have hg := heap_alloc_new w (.cells (rowM m n 0) 2)
  have hx2 : (w.alloc (.cells (rowM m n 0) 2)).cell? ⟨b0, 0, none⟩ = some (.int .i64 m) := by
    rw [cell_same (Below.heap_alloc w (.cells (rowM m n 0) 2) b0 hb)]
    exact hx
  have HB := Lib.hid (And.intro hB (And.intro hg hx2))
  clear hi hz0 hz1 hz2 hB hg hx2 hx
  go_enter Try.func22, Try.ntmps22
  go_wp2_with fail
  (with_reducible refine (c _).mono ?_)
  rintro e w2 ⟨rfl, rfl⟩
  clear c
  go_upto_region 7 with fail
  obtain ⟨hB, hg, hx2⟩ := HB.out
  clear HB
  generalize w.alloc (.cells (rowM m n 0) 2) = w2 at *
  generalize hgd : w.heap.size = g at *
  have HG := Lib.hid hgd
  clear hgd
  by_cases hn0 : n = 0
  · subst hn0
    have cp := fun ty => run_copy_none (P := Try.prog) w2 52 52 ty 2 (some ⟨g, 0, none⟩) (some ⟨b0, 0, none⟩) 0 0 1 cap Try.underlying52 size_int15 (by decide)
    simp only [goInt] at cp
    have HH := Lib.hid (And.intro hB hg)
    clear hB hg hx2
    go_wp2_with fail
    refine wp_loop_rounds 1 ?_
    rw [rounds_succ]
    go_wp2_with fail
    go_ret
    obtain ⟨hB, hg⟩ := HH.out
    have hgs := HG.out
    subst hgs
    exact ⟨_, rfl, ⟨rfl, .inr ⟨_, 0, _, rfl, Nat.le_refl _, hg, Nat.le_refl _, by unfold maxLen; omega, rowM_size m 0 0 (Nat.le_refl _), by simp⟩⟩, hB⟩
  · have cp := fun ty => run_copy_row (P := Try.prog) w2 52 52 ty 2 g 0 n n ⟨b0, 0, none⟩ 1 cap (rowM m n 0) 2 [.int .i64 m] Try.underlying52 size_int15 hg (by show 1 = min 1 n; omega) (by
      intro j v hv
      match j, hv with
      | 0, hv =>
        simp at hv
        subst hv
        rw [Addr.add_lit]
        exact hx2) (by rw [rowM_size m n 0 (Nat.zero_le _)]; simp; omega) (by simp [Value.oneCell'])
    have e := rowM_fill m n 0 1 (by omega)
    have e' : ((rowM m n 0).toList.take 0 ++ [Value.int .i64 m] ++ (rowM m n 0).toList.drop (0 + ([Value.int .i64 m]).length)).toArray = rowM m n 1 := e
    rw [e'] at cp
    change ∀ ty, _ = Result.ok (Value.int .i64 1) _ at cp
    have hB2 := below_setRow hB (Nat.le_refl _) (rowM m n 1)
    have hg2 := setRow_heap w2 g (rowM m n 0) (rowM m n 1) 2 (0, 0) hg
    have HH := Lib.hid (And.intro hB2 hg2)
    clear hB hg hx2 e e' hB2 hg2
    go_wp2_with fail
    obtain ⟨hB, hg⟩ := HH.out
    clear HH cp
    generalize w2.setRow g (rowM m n 1) = w3 at *
    have HB := Lib.hid hB
    clear hB
    go_loopg [8] n (fun gk vk wr => ∃ k : Nat, vk = .int .i64 k ∧ 1 ≤ k ∧ k ≤ n ∧ n - k ≤ gk ∧ wr.heap[g]? = some (.cells (rowM m n k) 2 (0, 0)) ∧ Hid (Below g w wr))
    case atStart => exact ⟨1, rfl, Nat.le_refl _, by omega, by omega, hg, HB⟩
    case round =>
      clear hg HB
      obtain ⟨k, rfl, hk1, hkn, hgk, hg, HB⟩ := hrel
      by_cases hlt : k < n
      · have hltz : (k : Int) < (n : Int) := by omega
        have k0 : (0 : Int) ≤ (k : Int) := by omega
        have kn : (k : Int) ≤ (n : Int) := by omega
        obtain ⟨c, hc⟩ : ∃ c, c = min k (n - k) := ⟨_, rfl⟩
        have hnk : ¬ n = k := by omega
        have ek : IntKind.i64.wrap ((k : Int) + (c : Int)) = ((k + c : Nat) : Int) := by rw [IntKind.wrap_i64]; omega
        have HC := Lib.hid hc
        have hg4 : wr.drew.heap[g]? = some (.cells (rowM m n k) 2 (0, 0)) := hg
        have hcc := HC.out
        have cp := fun ty => run_copy_row (P := Try.prog) wr.drew 52 52 ty 2 g k (n - k) (n - k) ⟨g, 0, none⟩ k n (rowM m n k) 2 (List.replicate c (.int .i64 m)) Try.underlying52 size_int15 hg4 (by rw [List.length_replicate]; exact hcc) (by
          intro j v hv
          obtain ⟨hj, rfl⟩ := List.getElem?_eq_some_iff.1 hv
          rw [List.length_replicate] at hj
          rw [Addr.add_lit, Nat.zero_add, List.getElem_replicate]
          simp only [World.cell?, hg4, Option.bind_some]
          exact rowM_get m n k j (by omega)) (by rw [rowM_size m n k hkn, List.length_replicate]; omega) (by
          intro v hv
          rw [(List.mem_replicate.1 hv).2]
          rfl)
        rw [List.length_replicate, rowM_fill m n k c (by omega)] at cp
        change ∀ ty, _ = Result.ok (Value.int .i64 (c : Int)) _ at cp
        have hB5 := below_setRow (Below.drew HB.out) (Nat.le_refl _) (rowM m n (k + c))
        have hg5 := setRow_heap wr.drew g (rowM m n k) (rowM m n (k + c)) 2 (0, 0) hg4
        have HH := Lib.hid (And.intro hB5 hg5)
        generalize hkc : k + c = kc at *
        have HK := Lib.hid hkc
        clear hg hg4 hcc hB5 hg5 hkc hc
        go_upto_region 9 with fail
        go_region
        all_goals go_wp2_with fail
        go_roundg (n - kc)
        case measure =>
          have := HC.out
          have := HK.out
          omega
        case rel =>
          have := HC.out
          have := HK.out
          exact ⟨kc, rfl, by omega, by omega, by omega, HH.out.2, HH.out.1⟩
      · obtain rfl : k = n := by omega
        have hltz : ¬ (k : Int) < (k : Int) := by omega
        have HE := Lib.hid hg
        clear hg
        go_wp2_with fail
        go_ret
        have hgs := HG.out
        subst hgs
        exact ⟨_, rfl, ⟨by simp, .inr ⟨_, k, _, rfl, Nat.le_refl _, HE.out, Nat.le_refl _, by unfold maxLen; omega, by rw [Nat.mul_one]; exact rowM_size m k k (Nat.le_refl _), by simp [rowM]⟩⟩, HB.out⟩
theorem flat_i64 (l : List Int) : l.flatMap i64E = l.map fun x => Value.int .i64 x := by
  induction l with
  | nil => rfl
  | cons x l ih => rw [List.flatMap_cons, ih]; rfl
theorem times_sum (m : Int) : ∀ n, (List.replicate n m).foldl addI 0 = timesI m n
  | 0 => rfl
  | n + 1 => by
    rw [List.replicate_succ', List.foldl_append, times_sum m n]
    rfl
set_option maxRecDepth 100000 in
set_option maxHeartbeats 12800000 in
theorem tmet_any (p : Pm) (tp : p.Typed) (s : Sv) (ts : s.Typed) (at_ : Int) (a0 : -9223372036854775808 ≤ at_ ∧ at_ ≤ 9223372036854775807) (w : World) :
    Calls Try.prog 11 #[p.val, s.val, .int .i64 at_] w fun e w' => e = .returned (.int .i64 (metI p s at_)) ∧ Below w.heap.size w w' := by
  obtain ⟨i0, hi0, hz0, hz1, hz2⟩ := info_parts info_int15
  have cd := tdist_any p tp s ts at_ a0
  have dr := dist_range p s at_
  have hmd := tp.maxdist
  obtain ⟨m, hm⟩ : ∃ m, min s.str 16 = m := ⟨_, rfl⟩
  obtain ⟨N, hN⟩ : ∃ N : Nat, (max 0 m).toNat = N := ⟨_, rfl⟩
  have hN' : max 0 m = (N : Int) := by omega
  have hN16 : N ≤ 16 := by omega
  have r1 := fun ts t => run_min15 s.str 16 m hm ts t
  have r2 := fun ts t => run_max15 0 m _ hN' ts t
  have hM : (List.replicate N p.maxdist ++ [distI p s at_]).foldl addI 0 = metI p s at_ := by
    rw [List.foldl_append, times_sum]
    unfold metI
    rw [hm, hN]
    rfl
  have cs := fun (F : Nat → Prop) (v : Value) (W : World) (h : SlAt F 1 i64E W v (List.replicate N p.maxdist ++ [distI p s at_])) => tsum_any _ (by simp; omega) (by
    intro x hx
    rcases List.mem_append.1 hx with h | h
    · rw [(List.mem_replicate.1 h).2]
      exact hmd
    · simp at h
      subst h
      omega) W h
  rw [hM] at cs
  have cr := fun (b : Nat) (W : World) => trep_any p.maxdist N hN16 b 1 W
  have HC := Lib.hid cs
  have HR := Lib.hid cr
  have HH := Lib.hid (two_box w (pmV p) (svV s) 28 26)
  unfold pmV svV at HH
  generalize metI p s at_ = M at *
  generalize distI p s at_ = D at *
  unfold Pm.val Sv.val at *
  clear hm hN hN' hM dr hmd cs cr tp ts
  go_enter Try.func11, Try.ntmps11
  go_upto_region 1 with fail
  obtain ⟨hp, hs, B, hz⟩ := HH.out
  clear HH
  generalize ((w.alloc (.cells #[.int .i64 p.step, .int .i64 p.watch, .int .i64 p.panic, .int .i64 p.maxrate, .int .i64 p.phi, .int .i64 p.maxdist, .int .i64 p.gate, .int .i64 p.minpoll, .int .i64 p.maxpoll, .int .i64 p.burst, .int .i64 p.minsane, .int .i64 p.minleft] 28)).alloc (.cells #[.int .i64 s.leap, .int .i64 s.str, .int .u32 s.ref, .int .i64 s.del, .int .i64 s.disp, .int .i64 s.t.off, .int .i64 s.t.del, .int .i64 s.t.disp, .int .i64 s.t.jit, .int .i64 s.t.at_, .int .u8 s.reg] 26)) = w1 at *
  obtain ⟨s0, s1, s2, s3, s4, s5, s6, s7, s8, s9, s10⟩ := eleven_in hs
  obtain ⟨b0, b1, b2, b3, b4, b5, b6, b7, b8, b9, b10, b11⟩ := twelve_atK hp
  clear s0 s2 s3 s4 s5 s6 s7 s8 s9 s10 b0 b1 b2 b3 b4 b6 b7 b8 b9 b10 b11
  have hpl := (Array.getElem?_eq_some_iff.1 hp).1
  have hsl := (Array.getElem?_eq_some_iff.1 hs).1
  have hl2 : (w1.alloc (.cells #[.int .i64 p.maxdist] 2)).heap.size = w1.heap.size + 1 := World.size_alloc _ _
  have c := HR.out w1.heap.size (w1.alloc (.cells #[.int .i64 p.maxdist] 2)) (by
    have := heap_alloc_new w1 (.cells #[.int .i64 p.maxdist] 2)
    simp only [World.cell?, this, Option.bind_some]
    rfl) (by omega)
  have k1 := laid (.cells #[.int .i64 p.maxdist] 2) hp
  have k2 := laid (.cells #[.int .i64 p.maxdist] 2) hs
  have B2 := B.alloc B.size (.cells #[.int .i64 p.maxdist] 2)
  have HK := Lib.hid (And.intro k1 (And.intro k2 (And.intro B2 hl2)))
  clear hp hs B k1 k2 B2 HR hz hl2
  go_wp2_with fail
  (with_reducible refine c.mono ?_)
  rintro e w3 ⟨g, rfl, own3, hw⟩
  obtain ⟨k1, k2, B2, hl2⟩ := HK.out
  replace k1 := kept k1 hw
  replace k2 := kept k2 hw
  have B3 := B2.trans (hw.mono B2.size)
  have z3 := hw.size
  rw [hl2] at own3 z3
  clear c hw HK B2 hl2 s1 b5
  go_wp2_with (first | (refine at_load_sv15 rfl _ rfl _ rfl k2 rfl ?_) | (refine at_load_pm10 rfl _ rfl _ rfl k1 rfl ?_))
  (with_reducible refine (cd _).mono ?_)
  rintro e w4 ⟨rfl, hw⟩
  have own4 := own_kept15 own3 hw
  have B4 := B3.trans (hw.mono B3.size)
  have z4 := hw.size
  have own5 := own4.alloc (.cells #[.int .i64 D] 2)
  have B5 := B4.alloc B4.size (.cells #[.int .i64 D] 2)
  clear cd hw own3 own4 B3 B4 k1 k2
  go_wp2_with (at_builtin; refine wpList_append_own _ rfl _ _ 52 rfl (w1.heap.size + 1) 2 i0 _ 1 8 Try.underlying52 hi0 hz0 hz1 hz2 rfl (by decide) _ _ _ rfl own5 ⟨w4.heap.size, 0, none⟩ 1 1 [.int .i64 D] rfl rfl (new_row15 _ _ _) (by simp [Value.oneCell']) (by unfold maxLen; omega) (by omega) (by rw [World.size_alloc]; omega) ?_; intro v6 w6 own6 g6 _)
  have B6 := B5.grown g6 (by rw [World.size_alloc]; omega) (fun g hg => by have := (own5.lt g hg).1; omega)
  have own7 : w6.ownsRow (w1.heap.size + 1) 2 1 v6 (List.replicate N p.maxdist ++ [D]).length ((List.replicate N p.maxdist ++ [D]).flatMap i64E) := by
    rw [flat_i64]
    simpa using own6
  have c := HC.out _ v6 w6 (SlAt.own (k := 1) (enc := i64E) (fun _ => rfl) own7)
  clear own7
  clear own6 own5 B5 g6
  (with_reducible refine c.mono ?_)
  rintro e w7 ⟨rfl, rfl⟩
  go_wp2_with fail
  go_ret
  exact ⟨rfl, B6⟩
end Go.Proofs.Ytkjecjehphgpjaa.W

