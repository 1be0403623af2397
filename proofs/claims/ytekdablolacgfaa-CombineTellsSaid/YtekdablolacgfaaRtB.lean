/- Layer 15's own code, walked: sums, how far a server is, whether it is fit, its span (written by wip/genRtB.py). -/
import Derived.Test.YtekdablolacgfaaRtA
import Derived.Test.YtekdablolacgfaaPlA
import Derived.Test.YtekdablolacgfaaStK
import Derived.Test.YtekdablolacgfaaStF
import Derived.Test.YtekdablolacgfaaFpA
import Derived.Test.YtekdablolacgfaaRows
import Derived.Test.YtekdablolacgfaaChecked
import Derived.Test.YtekdablolacgfaaWdefs
import Derived.Test.YtekdablolacgfaaSlA
import Derived.Test.YtekdablolacgfaaRowS
import Derived.Test.YtekdablolacgfaaRcA
import Derived.Test.YtekdablolacgfaaFixD
import Derived.Test.YtekdablolacgfaaHdZ
import Derived.Test.YtekdablolacgfaaFixB
import Derived.Test.YtekdablolacgfaaQtB
import Derived.Test.YtekdablolacgfaaFixC
import Derived.WalkKit
import Derived.Lib.QuietBelow
import Derived.Lib.Hide
import Derived.BigQuiet
import Derived.Deep.LoopGhost
import Derived.Laws.CopyOwn
import Derived.Handy
import Derived.Laws.AppendOwn
import Derived.Deep.DeepCutAuto
import Derived.WalkSpells
import Derived.WalkLawsBesides
import Derived.Laws.Externs
import Derived.Lib.Zigzag
import Derived.Deep.QuietTactic
import Derived.Below
import Derived.Maps.OwnSet
import Derived.Maps.OwnOps
import Derived.Laws.CopyRow
import Derived.OwnWalk
namespace Go.Proofs.Ytekdablolacgfaa.W
open Go.RowKit Go.Sort Go.ChangeShapes Go.WideShapes
set_option linter.unusedVariables false
set_option linter.unusedSimpArgs false
abbrev pmV (p : Pm) : Array Value := #[.int .i64 p.step, .int .i64 p.watch, .int .i64 p.panic, .int .i64 p.maxrate, .int .i64 p.phi, .int .i64 p.maxdist, .int .i64 p.gate, .int .i64 p.minpoll, .int .i64 p.maxpoll, .int .i64 p.burst, .int .i64 p.minsane, .int .i64 p.minleft]
abbrev svV (s : Sv) : Array Value := #[.int .i64 s.leap, .int .i64 s.str, .int .u32 s.ref, .int .i64 s.del, .int .i64 s.disp, .int .i64 s.t.off, .int .i64 s.t.del, .int .i64 s.t.disp, .int .i64 s.t.jit, .int .i64 s.t.at_, .int .u8 s.reg]
theorem eleven_in {w : World} {p : Nat} {a0 a1 a2 a3 a4 a5 a6 a7 a8 a9 a10 : Value} {t : TypeId} (h : w.heap[p]? = some (.cells #[a0, a1, a2, a3, a4, a5, a6, a7, a8, a9, a10] t (0, 0))) :
    w.cell? ⟨p, 0, none⟩ = some a0 ∧ w.cell? ⟨p, 1, none⟩ = some a1 ∧ w.cell? ⟨p, 2, none⟩ = some a2 ∧ w.cell? ⟨p, 3, none⟩ = some a3 ∧ w.cell? ⟨p, 4, none⟩ = some a4 ∧ w.cell? ⟨p, 5, none⟩ = some a5 ∧ w.cell? ⟨p, 6, none⟩ = some a6 ∧ w.cell? ⟨p, 7, none⟩ = some a7 ∧ w.cell? ⟨p, 8, none⟩ = some a8 ∧ w.cell? ⟨p, 9, none⟩ = some a9 ∧ w.cell? ⟨p, 10, none⟩ = some a10 := by
  refine ⟨?_, ?_, ?_, ?_, ?_, ?_, ?_, ?_, ?_, ?_, ?_⟩ <;> simp [World.cell?, h]
theorem below_again {v v' : World} (h : ∃ p : Regrown, v' = grow (redrawn v p.d) p.os) : Below v.heap.size v v' := by
  obtain ⟨p, rfl⟩ := h
  exact below_regrown v p.d p.os
section
variable {ops : Array Oper} {Q : Exit → Act → World → Prop} {rest : List Oper} {o : Oper} {a : Act} {w : World}
end
theorem run_max15 (a b m : Int) (h : max a b = m) (ts : Array TypeId) (t : TypeId) (w : World) : (Builtin.max_ ts t #[.int .i64 a, .int .i64 b]).run Try.prog w = .ok (.int .i64 m) w := by
  subst h
  rcases Int.lt_trichotomy a b with h | rfl | h
  · simp [Builtin.max_, Builtin.max2, show max a b = b by omega, h, show ¬ b < a by omega]
  · simp [Builtin.max_, Builtin.max2]
  · simp [Builtin.max_, Builtin.max2, show max a b = a by omega, h, show ¬ a < b by omega]
theorem two_box (w : World) (A C : Array Value) (ta tb : TypeId) : ((w.alloc (.cells A ta)).alloc (.cells C tb)).heap[w.heap.size]? = some (.cells A ta (0, 0)) ∧ ((w.alloc (.cells A ta)).alloc (.cells C tb)).heap[w.heap.size + 1]? = some (.cells C tb (0, 0)) ∧ Below w.heap.size w ((w.alloc (.cells A ta)).alloc (.cells C tb)) ∧ ((w.alloc (.cells A ta)).alloc (.cells C tb)).heap.size = w.heap.size + 2 := by
  refine ⟨laid _ (heap_alloc_new w _), ?_, ((Below.refl w.heap.size w).alloc (Nat.le_refl _) _).alloc (by simp) _, by simp [World.size_alloc]⟩
  have := heap_alloc_new (w.alloc (.cells A ta)) (.cells C tb)
  simpa [World.size_alloc] using this
/-- Terms, added one by one. -/
def i64E (x : Int) : List Value := [.int .i64 x]
def sumT (l : List Int) (k : Nat) : Int := (l.take k).foldl addI 0
theorem sumT_range (l : List Int) (k : Nat) : -9223372036854775807 ≤ sumT l k ∧ sumT l k ≤ 9223372036854775807 := by
  unfold sumT
  have : ∀ (m : List Int) (s : Int), -9223372036854775807 ≤ s ∧ s ≤ 9223372036854775807 → -9223372036854775807 ≤ m.foldl addI s ∧ m.foldl addI s ≤ 9223372036854775807 := by
    intro m
    induction m with
    | nil => exact fun s h => h
    | cons x m ih => exact fun s h => ih _ (addI_range s x)
  exact this _ 0 (by decide)
theorem sumT_next {l : List Int} {k : Nat} {x : Int} (h : l[k]? = some x) : sumT l (k + 1) = addI (sumT l k) x := by
  unfold sumT
  rw [take_next l k x h, List.foldl_append]
  rfl
theorem sumT_all (l : List Int) : sumT l l.length = l.foldl addI 0 := by unfold sumT; rw [List.take_length]
theorem addI_none {x : Int} (h : -9223372036854775807 ≤ x ∧ x ≤ 9223372036854775807) : addI 0 x = x := by
  unfold addI cutI
  omega
set_option maxHeartbeats 3200000 in
theorem tsum_any (l : List Int) (hl : l.length < 4611686018427387904) (tl : ∀ x ∈ l, -9223372036854775808 ≤ x ∧ x ≤ 9223372036854775807) {F : Nat → Prop} {v : Value} (w : World) (hs : SlAt F 1 i64E w v l) :
    Calls Try.prog 68 #[v] w fun e w' => e = .returned (.int .i64 (l.foldl addI 0)) ∧ w = w' := by
  rcases hs with ⟨a, c, rfl, _, rfl⟩ | ⟨b, off, cap, rfl, _, hc⟩
  · go_enter Try.func68, Try.ntmps68
    go_wp2_with fail
    refine wp_loop_rounds 1 ?_
    rw [rounds_succ]
    go_wp2_with fail
    go_ret
    exact ⟨rfl, rfl⟩
  · have HC : Hid (∀ (i : Nat) (x : Int), l[i]? = some x → w.cell? ⟨b, off + i, none⟩ = some (.int .i64 x)) := fun i x hx => by
      have := hc i x hx 0 (.int .i64 x) rfl
      rw [Nat.mul_one, Nat.add_zero] at this
      exact this
    have TL := Lib.hid tl
    rw [← sumT_all]
    obtain ⟨n, hn⟩ : ∃ n, l.length = n := ⟨_, rfl⟩
    have HN := Lib.hid hn
    rw [hn] at hl ⊢
    clear hc tl hn
    go_enter Try.func68, Try.ntmps68
    go_wp2_with fail
    go_loopg [3, 8] n (fun g va vi wr => ∃ i : Nat, vi = .int .i64 i ∧ i ≤ n ∧ n - i ≤ g ∧ va = .int .i64 (sumT l i) ∧ w = wr)
    case atStart => exact ⟨0, rfl, Nat.zero_le _, Nat.le_refl _, rfl, rfl⟩
    case round =>
      obtain ⟨i, rfl, hin, hg, rfl, hw⟩ := hrel
      by_cases hlt : i < n
      · have hltz : (i : Int) < (n : Int) := by omega
        obtain ⟨x, hx, hm⟩ := at_index l i (by rw [HN.out]; exact hlt)
        have ci := HC.out i x hx
        rw [hw] at ci
        have tx := TL.out x hm
        have sr := sumT_range l i
        have c := add_any (sumT l i) x (by omega) sr.2 tx.1 tx.2
        rw [← sumT_next hx] at c
        generalize sumT l i = s0 at c
        generalize hs1 : sumT l (i + 1) = s1 at c
        have HS := Lib.hid hs1
        have i0 : (0 : Int) ≤ (i : Int) := by omega
        clear hx hm tx sr hs1
        go_wp2_with fail
        (with_reducible refine (c _).mono ?_)
        rintro e w1 ⟨rfl, hw1⟩
        have HW := Lib.hid (hw.trans hw1)
        clear hw1 c ci
        go_wp2_with fail
        go_roundg (n - (i + 1))
        case measure => omega
        case rel => exact ⟨i + 1, by go_num, by omega, by omega, by rw [HS.out], HW.out⟩
      · obtain rfl : i = n := by omega
        have hltz : ¬ (i : Int) < (i : Int) := by omega
        have HW := Lib.hid hw
        clear hw
        go_wp2_with fail
        go_ret
        exact ⟨rfl, HW.out⟩
theorem lit_sl (w : World) (xs : List Int) (t : TypeId) (cap : Nat) : SlAt (fun b => b = w.heap.size) 1 i64E (w.alloc (.cells (xs.map fun x => Value.int .i64 x).toArray t)) (.slice (some ⟨w.heap.size, 0, none⟩) xs.length cap) xs := by
  refine .inr ⟨_, 0, cap, rfl, rfl, fun i x hx j u hu => ?_⟩
  have hj : j = 0 := by
    have := (List.getElem?_eq_some_iff.1 hu).1
    simp [i64E] at this
    exact this
  subst hj
  simp [i64E] at hu
  subst hu
  have := heap_alloc_new w (.cells (xs.map fun x => Value.int .i64 x).toArray t)
  simp only [World.cell?, this, Option.bind_some]
  simp [hx]
set_option maxRecDepth 100000 in
set_option maxHeartbeats 12800000 in
theorem tdist_any (p : Pm) (tp : p.Typed) (s : Sv) (ts : s.Typed) (at_ : Int) (a0 : -9223372036854775808 ≤ at_ ∧ at_ ≤ 9223372036854775807) (w : World) :
    Calls Try.prog 55 #[p.val, s.val, .int .i64 at_] w fun e w' => e = .returned (.int .i64 (distI p s at_)) ∧ Below w.heap.size w w' := by
  have hdel := ts.del
  have hdisp := ts.disp
  have htd := ts.t.del
  have htp := ts.t.disp
  have htj := ts.t.jit
  have hta := ts.t.at_
  have hph := tp.phi
  have c1 := add_any s.del s.t.del hdel.1 hdel.2 htd.1 htd.2
  obtain ⟨x1, e1⟩ : ∃ x, addI s.del s.t.del = x := ⟨_, rfl⟩
  have b1 := addI_range s.del s.t.del
  obtain ⟨x2, e2⟩ : ∃ x, max 21474836 x1 = x := ⟨_, rfl⟩
  rw [e1] at c1 b1
  have c2 := shift_any x2 (-1) (by omega) (by omega) (by decide) (by decide)
  obtain ⟨x3, e3⟩ : ∃ x, shiftI x2 (-1) = x := ⟨_, rfl⟩
  have b3 : -9223372036854775807 ≤ x3 ∧ x3 ≤ 9223372036854775807 := by
    rw [← e3]
    unfold shiftI
    rw [if_pos (by decide)]
    exact cutI_range _
  rw [e3] at c2
  have c5 := sub_any at_ s.t.at_ a0.1 a0.2 hta.1 hta.2
  obtain ⟨x6, e6⟩ : ∃ x, subI at_ s.t.at_ = x := ⟨_, rfl⟩
  have b6 := subI_range at_ s.t.at_
  rw [e6] at c5 b6
  obtain ⟨x7, e7⟩ : ∃ x, max x6 0 = x := ⟨_, rfl⟩
  have e7' : max 0 x6 = x7 := by rw [← e7]; omega
  have c6 := fmul_any p.phi x7 hph.1 hph.2 (by omega) (by omega)
  obtain ⟨x8, e8⟩ : ∃ x, mulI p.phi x7 = x := ⟨_, rfl⟩
  have b8 := mulI_range' p.phi x7
  rw [e8] at c6 b8
  have hD : [x3, s.disp, s.t.disp, x8, s.t.jit].foldl addI 0 = distI p s at_ := by
    unfold distI dist0
    rw [e1, e2, e3, e6, e7', e8]
    simp only [List.foldl_cons, List.foldl_nil]
    rw [addI_none b3]
  have cs := fun (W : World) => tsum_any [x3, s.disp, s.t.disp, x8, s.t.jit] (by simp) (by
    intro x hx
    simp only [List.mem_cons, List.not_mem_nil, or_false] at hx
    rcases hx with rfl | rfl | rfl | rfl | rfl
    · omega
    · exact hdisp
    · exact htp
    · omega
    · exact htj) _ (lit_sl W [x3, s.disp, s.t.disp, x8, s.t.jit] 2 5)
  rw [hD] at cs
  change ∀ W : World, Calls Try.prog 68 #[.slice (some ⟨W.heap.size, 0, none⟩) 5 5] (W.alloc (.cells #[.int .i64 x3, .int .i64 s.disp, .int .i64 s.t.disp, .int .i64 x8, .int .i64 s.t.jit] 2)) (fun e w' => e = .returned (.int .i64 (distI p s at_)) ∧ W.alloc (.cells #[.int .i64 x3, .int .i64 s.disp, .int .i64 s.t.disp, .int .i64 x8, .int .i64 s.t.jit] 2) = w') at cs
  generalize distI p s at_ = D at *
  have m1 := fun ts t => run_max15 21474836 x1 x2 e2 ts t
  have m2 := fun ts t => run_max15 x6 0 x7 e7 ts t
  have HH := Lib.hid (two_box w (pmV p) (svV s) 31 57)
  unfold pmV svV at HH
  unfold Pm.val Sv.val at *
  clear e1 e2 e3 e6 e7 e7' e8 hD hdel hdisp htd htp htj hta hph b1 b3 b6 b8
  go_enter Try.func55, Try.ntmps55
  go_wp2_with fail
  (with_reducible refine (c1 _).mono ?_)
  rintro e w1 ⟨rfl, rfl⟩
  clear c1
  go_upto_region 2 with fail
  clear m1
  obtain ⟨hp, hs, B, hz⟩ := HH.out
  clear HH
  generalize ((w.alloc (.cells #[.int .i64 p.step, .int .i64 p.watch, .int .i64 p.panic, .int .i64 p.maxrate, .int .i64 p.phi, .int .i64 p.maxdist, .int .i64 p.gate, .int .i64 p.minpoll, .int .i64 p.maxpoll, .int .i64 p.burst, .int .i64 p.minsane, .int .i64 p.minleft] 31)).alloc (.cells #[.int .i64 s.leap, .int .i64 s.str, .int .u32 s.ref, .int .i64 s.del, .int .i64 s.disp, .int .i64 s.t.off, .int .i64 s.t.del, .int .i64 s.t.disp, .int .i64 s.t.jit, .int .i64 s.t.at_, .int .u8 s.reg] 57)) = w1 at *
  obtain ⟨s0, s1, s2, s3, s4, s5, s6, s7, s8, s9, s10⟩ := eleven_in hs
  obtain ⟨a0', a1, a2, a3, a4, a5, a6, a7, a8, a9, a10, a11⟩ := twelve_atK hp
  have k9 := cell_regrown s9
  have ka4 := cell_regrown a4
  have d5 := fun d os => (Calls.regrown_of ((c5 (grow (redrawn w1 d) os)).mono fun e w' h => And.intro h.1 (h.2 ▸ Below.refl _ _)))
  have d6 := fun d os => Calls.regrown_of (c6 (grow (redrawn w1 d) os))
  have HS := Lib.hid hs
  clear s0 s1 s2 s3 s4 s5 s6 s7 s8 s10 a0' a1 a2 a3 a5 a6 a7 a8 a9 a10 a11 s9 a4 hs hp c5 c6
  refine wp_region_quiet_below (by kernel_rfl) (by kernel_rfl) ?_
  repeat (quiet_step (first | (with_reducible exact d5 _ _) | (with_reducible exact d6 _ _)))
  refine wpQuiet_nil ?_
  intro w2 hw
  replace hw := below_again hw
  have hs := kept HS.out hw
  replace B := B.trans (hw.mono B.size)
  clear k9 ka4 d5 d6 m2 hw HS hz
  go_upto_region 3 with fail
  obtain ⟨s0, s1, s2, s3, s4, s5, s6, s7, s8, s9, s10⟩ := eleven_in hs
  have k4 := cell_regrown s4
  have k7 := cell_regrown s7
  have k8 := cell_regrown s8
  have d2 := fun d os => (Calls.regrown_of ((c2 (grow (redrawn w2 d) os)).mono fun e w' h => And.intro h.1 (h.2 ▸ Below.refl _ _)))
  clear s0 s1 s2 s3 s4 s5 s6 s7 s8 s9 s10 hs c2
  refine wp_region_below_tail 11 (by kernel_rfl) (by kernel_rfl) ?_
  simp only [List.take_succ_cons, List.take_zero, List.drop_succ_cons, List.drop_zero]
  repeat (quiet_step (first | (with_reducible exact d2 _ _)))
  refine wpQuiet_nil ?_
  intro w3 hw
  replace hw := below_again hw
  have B2 := (B.trans (hw.mono B.size)).alloc (Nat.le_trans B.size hw.size) (.cells #[.int .i64 x3, .int .i64 s.disp, .int .i64 s.t.disp, .int .i64 x8, .int .i64 s.t.jit] 2)
  have c := cs w3
  have HB := Lib.hid B2
  clear hw B B2 cs d2 k4 k7 k8
  go_wp2_with fail
  (with_reducible refine c.mono ?_)
  rintro e w4 ⟨rfl, rfl⟩
  go_wp2_with fail
  go_ret
  exact ⟨rfl, HB.out⟩
end Go.Proofs.Ytekdablolacgfaa.W
