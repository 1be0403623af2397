/- ChecksOrder: whatever is wrong, what is wrong first is told. No condition. (Written by gen14.py.) -/
import Derived.Test.YtjelbpibofngiaaCkY
import Derived.Deep.DeepCutAuto
import Derived.WalkKit
import Derived.WalkSpells
import Derived.WalkLawsBesides
import Derived.Lib.Hide
import Derived.Handy
import Derived.ProofKit
import Derived.OpenShut
import Derived.ShutString
import Derived.ChangeOld
import Derived.Below
namespace Go.Proofs.Ytjelbpibofngiaa.ChecksOrder
open Go.Proofs.Ytjelbpibofngiaa.W
open Go.ChangeShapes Go.WideShapes Go.ChangeAt Go.RowKit
open Go.ChangeMaps (open_string shut_string)
set_option linter.unusedVariables false
theorem own : ownKnob Try.prog.godebug = none := by kernel_rfl
theorem laidOut : laidOutB Try.prog = true := by kernel_rfl
open Go.Sort
set_option linter.unusedSimpArgs false
set_option linter.unusedVariables false
/-- What is wrong first. -/
theorem first_wrong (p : Pm) (hd : p.maxdist = 6442450944) (o O1 : Int) (h1 : 1 ≤ o) (hO : O1 ≠ o) (B6 B5 B4 B3 B2 B1 B0 : Bool) (L7 L0 L3 L10 L12 L2 L1 W6 W5 W4 W3 W2 W1 W0 : Int)
    (e7 : L7 = if B6 then 1048576 else 0) (e0 : L0 = if B5 then 3 else 0) (e3 : L3 = if B4 then 0 else 1) (e10 : L10 = if B3 then O1 else o) (e12 : L12 = if B2 then 77 else 2) (e2 : L2 = if B1 then 3 else 4) (e1 : L1 = if B0 then 3 else 4)
    (w6 : W6 = if B6 then 124 else 0) (w5 : W5 = if B5 then 123 else W6) (w4 : W4 = if B4 then 125 else W5) (w3 : W3 = if B3 then 122 else W4) (w2 : W2 = if B2 then 121 else W3) (w1 : W1 = if B1 then 120 else W2) (w0 : W0 = if B0 then 51 else W1) :
    judgeI p ⟨4, o, 77⟩ ⟨L0, L1, L2, L3, 0, 0, 0, L7, 0, 0, L10, 1, L12⟩ = W0 := by
  unfold judgeI
  dsimp only
  cases B0
  · rw [if_neg Bool.false_ne_true] at e1 w0
    subst e1 w0
    rw [if_neg (by decide)]
    cases B1
    · rw [if_neg Bool.false_ne_true] at e2 w1
      subst e2 w1
      rw [if_neg (by decide)]
      cases B2
      · rw [if_neg Bool.false_ne_true] at e12 w2
        subst e12 w2
        rw [if_neg (by decide)]
        cases B3
        · rw [if_neg Bool.false_ne_true] at e10 w3
          subst e10 w3
          rw [if_neg (by omega)]
          cases B4
          · rw [if_neg Bool.false_ne_true] at e3 w4
            subst e3 w4
            rw [if_neg (by decide)]
            cases B5
            · rw [if_neg Bool.false_ne_true] at e0 w5
              subst e0 w5
              rw [if_neg (by decide), hd]
              cases B6
              · rw [if_neg Bool.false_ne_true] at e7 w6
                subst e7 w6
                unfold farI
                dsimp only
                rw [if_neg (by decide)]
              · rw [if_pos rfl] at e7 w6
                subst e7 w6
                unfold farI
                dsimp only
                rw [if_pos (by decide)]
            · rw [if_pos rfl] at e0 w5
              subst e0 w5
              rw [if_pos (by decide)]
          · rw [if_pos rfl] at e3 w4
            subst e3 w4
            rw [if_pos (by decide)]
        · rw [if_pos rfl] at e10 w3
          subst e10 w3
          rw [if_pos (by omega)]
      · rw [if_pos rfl] at e12 w2
        subst e12 w2
        rw [if_pos (by decide)]
    · rw [if_pos rfl] at e2 w1
      subst e2 w1
      rw [if_pos (by decide)]
  · rw [if_pos rfl] at e1 w0
    subst e1 w0
    rw [if_pos (by decide)]
set_option maxRecDepth 100000 in
set_option maxHeartbeats 25600000 in
theorem walk (a o0 : Int) (w : World) (wa : (Lit.int .u8 a).wf = true) (wo : (Lit.int .u64 o0).wf = true) :
    Calls Try.prog 6 #[.int .u8 a, .int .u64 o0] w fun e w' => e = .returned (.bool true) ∧ Below w.heap.size w w' := by
  have ha := u8_bounds wa
  have ho : 0 ≤ o0 ∧ o0 ≤ 18446744073709551615 := by have := bounds_u64 wo; omega
  clear wa wo
  have c1 := gstd_any
  have c2 := gcheck_any stdC std_typed
  have H := std_params
  have HD := Lib.hid std_dist
  generalize chkN stdC = n0 at *
  generalize chkE stdC = n1 at *
  generalize stdC.val = sv at *
  generalize chkP stdC = p at *
  unfold Pm.val at c2
  have c4 := shown12_any
  go_enter Try.func6, Try.ntmps6
  go_wp2_with fail
  (with_reducible refine (c1 _).mono ?_)
  rintro e w1 ⟨rfl, hB1⟩
  go_wp2_with fail
  (with_reducible refine (c2 _).mono ?_)
  rintro e w2 ⟨rfl, hB2⟩
  have hq2 := hB1.trans (hB2.mono hB1.size)
  go_upto_region 6 with fail
  obtain ⟨o, hO⟩ : ∃ o : Int, (if o0 < 1 then (1 : Int) else o0) = o := ⟨_, rfl⟩
  rw [hO]
  have or1 : 1 ≤ o ∧ o ≤ 18446744073709551615 := by
    rw [← hO]
    split <;> omega
  clear hO hB1 hB2 c1 c2 ho
  obtain ⟨O1, hO1⟩ : ∃ x, x = (o + 1) % 18446744073709551616 := ⟨_, rfl⟩
  have tO1 : 0 ≤ O1 ∧ O1 < 18446744073709551616 ∧ O1 ≠ o := by omega
  have HO1 := Lib.hid hO1
  clear hO1
  have hp := laid (.cells #[.int .i64 0, .int .i64 4, .int .i64 4, .int .i64 1, .int .i64 0, .int .i64 0, .int .u32 0, .int .u32 0, .int .u32 0, .int .u64 0, .int .u64 o, .int .u64 1, .int .u64 2] 29) (laid (.cells #[.int .i64 4, .int .u64 o, .int .u64 77] 26) (heap_alloc_new w2 (.cells #[.int .i64 p.step, .int .i64 p.watch, .int .i64 p.panic, .int .i64 p.maxrate, .int .i64 p.phi, .int .i64 p.maxdist, .int .i64 p.gate, .int .i64 p.minpoll, .int .i64 p.maxpoll, .int .i64 p.burst, .int .i64 p.minsane, .int .i64 p.minleft] 23)))
  have hk := laid (.cells #[.int .i64 0, .int .i64 4, .int .i64 4, .int .i64 1, .int .i64 0, .int .i64 0, .int .u32 0, .int .u32 0, .int .u32 0, .int .u64 0, .int .u64 o, .int .u64 1, .int .u64 2] 29) (heap_alloc_new (w2.alloc (.cells #[.int .i64 p.step, .int .i64 p.watch, .int .i64 p.panic, .int .i64 p.maxrate, .int .i64 p.phi, .int .i64 p.maxdist, .int .i64 p.gate, .int .i64 p.minpoll, .int .i64 p.maxpoll, .int .i64 p.burst, .int .i64 p.minsane, .int .i64 p.minleft] 23)) (.cells #[.int .i64 4, .int .u64 o, .int .u64 77] 26))
  have hh := heap_alloc_new ((w2.alloc (.cells #[.int .i64 p.step, .int .i64 p.watch, .int .i64 p.panic, .int .i64 p.maxrate, .int .i64 p.phi, .int .i64 p.maxdist, .int .i64 p.gate, .int .i64 p.minpoll, .int .i64 p.maxpoll, .int .i64 p.burst, .int .i64 p.minsane, .int .i64 p.minleft] 23)).alloc (.cells #[.int .i64 4, .int .u64 o, .int .u64 77] 26)) (.cells #[.int .i64 0, .int .i64 4, .int .i64 4, .int .i64 1, .int .i64 0, .int .i64 0, .int .u32 0, .int .u32 0, .int .u32 0, .int .u64 0, .int .u64 o, .int .u64 1, .int .u64 2] 29)
  have hq := ((hq2.alloc hq2.size (.cells #[.int .i64 p.step, .int .i64 p.watch, .int .i64 p.panic, .int .i64 p.maxrate, .int .i64 p.phi, .int .i64 p.maxdist, .int .i64 p.gate, .int .i64 p.minpoll, .int .i64 p.maxpoll, .int .i64 p.burst, .int .i64 p.minsane, .int .i64 p.minleft] 23)).alloc (by rw [World.size_alloc]; have := hq2.size; omega) (.cells #[.int .i64 4, .int .u64 o, .int .u64 77] 26)).alloc (by rw [World.size_alloc, World.size_alloc]; have := hq2.size; omega) (.cells #[.int .i64 0, .int .i64 4, .int .i64 4, .int .i64 1, .int .i64 0, .int .i64 0, .int .u32 0, .int .u32 0, .int .u32 0, .int .u64 0, .int .u64 o, .int .u64 1, .int .u64 2] 29)
  rw [World.size_alloc] at hk
  rw [World.size_alloc, World.size_alloc] at hh
  generalize ((w2.alloc (.cells #[.int .i64 p.step, .int .i64 p.watch, .int .i64 p.panic, .int .i64 p.maxrate, .int .i64 p.phi, .int .i64 p.maxdist, .int .i64 p.gate, .int .i64 p.minpoll, .int .i64 p.maxpoll, .int .i64 p.burst, .int .i64 p.minsane, .int .i64 p.minleft] 23)).alloc (.cells #[.int .i64 4, .int .u64 o, .int .u64 77] 26)).alloc (.cells #[.int .i64 0, .int .i64 4, .int .i64 4, .int .i64 1, .int .i64 0, .int .i64 0, .int .u32 0, .int .u32 0, .int .u32 0, .int .u64 0, .int .u64 o, .int .u64 1, .int .u64 2] 29) = u0 at *
  have hs2 := hq2.size
  clear hq2
  generalize w2.heap.size = g at *
  obtain ⟨B6, hb0⟩ : ∃ B : Bool, decide (0 < bits .and .u8 a 64) = B := ⟨_, rfl⟩
  obtain ⟨L7, hl0⟩ : ∃ L : Int, L = if B6 then 1048576 else 0 := ⟨_, rfl⟩
  obtain ⟨W6, hw0⟩ : ∃ W : Int, W = if B6 then 124 else 0 := ⟨_, rfl⟩
  have HL0 := Lib.hid hl0
  have HW0 := Lib.hid hw0
  clear hl0 hw0
  go_upto_if 26 with fail
  go_cut [11] (fun e wx => e = .int .i64 W6 ∧ wx.heap[g]? = some (.cells #[.int .i64 p.step, .int .i64 p.watch, .int .i64 p.panic, .int .i64 p.maxrate, .int .i64 p.phi, .int .i64 p.maxdist, .int .i64 p.gate, .int .i64 p.minpoll, .int .i64 p.maxpoll, .int .i64 p.burst, .int .i64 p.minsane, .int .i64 p.minleft] 23 (0, 0)) ∧ wx.heap[g + 1]? = some (.cells #[.int .i64 4, .int .u64 o, .int .u64 77] 26 (0, 0)) ∧ wx.heap[g + 1 + 1]? = some (.cells #[.int .i64 0, .int .i64 4, .int .i64 4, .int .i64 1, .int .i64 0, .int .i64 0, .int .u32 0, .int .u32 L7, .int .u32 0, .int .u64 0, .int .u64 o, .int .u64 1, .int .u64 2] 29 (0, 0)) ∧ Below w.heap.size w wx)
  case first =>
    have fz : u0.frozen? ⟨g + 1 + 1, 7, none⟩ = false := by simp [World.frozen?, hh]
    obtain ⟨h0, h1, h2, h3, h4, h5, h6, h7, h8, h9, h10, h11, h12⟩ := thirteen_in hh
    have hl := (Array.getElem?_eq_some_iff.1 hh).1
    cases B6
    · obtain rfl := (HL0.out).trans (if_neg Bool.false_ne_true)
      obtain rfl := (HW0.out).trans (if_neg Bool.false_ne_true)
      have E := Lib.hid (And.intro hp (And.intro hk (And.intro hh hq)))
      clear hp hk hh hq
      go_wp2_with fail
      go_meet
      exact ⟨rfl, E.out.1, E.out.2.1, E.out.2.2.1, E.out.2.2.2⟩
    · obtain rfl := (HL0.out).trans (if_pos rfl)
      obtain rfl := (HW0.out).trans (if_pos rfl)
      have hh2 : (u0.setCell ⟨g + 1 + 1, 7, none⟩ (.int .u32 1048576)).heap[g + 1 + 1]? = some (.cells #[.int .i64 0, .int .i64 4, .int .i64 4, .int .i64 1, .int .i64 0, .int .i64 0, .int .u32 0, .int .u32 1048576, .int .u32 0, .int .u64 0, .int .u64 o, .int .u64 1, .int .u64 2] 29 (0, 0)) := block_set 7 (.int .u32 1048576) hh
      have hp2 : (u0.setCell ⟨g + 1 + 1, 7, none⟩ (.int .u32 1048576)).heap[g]? = _ := (block_far (w := u0) (b := g + 1 + 1) (k := g) 7 (.int .u32 1048576) (by omega)).trans hp
      have hk2 : (u0.setCell ⟨g + 1 + 1, 7, none⟩ (.int .u32 1048576)).heap[g + 1]? = _ := (block_far (w := u0) (b := g + 1 + 1) (k := g + 1) 7 (.int .u32 1048576) (by omega)).trans hk
      have hq2 := hq.setCell (p := ⟨g + 1 + 1, 7, none⟩) (show w.heap.size ≤ g + 1 + 1 by omega) (.int .u32 1048576)
      have E := Lib.hid (And.intro hp2 (And.intro hk2 (And.intro hh2 hq2)))
      clear hp hk hh hq hp2 hk2 hh2 hq2
      go_wp2_with fail
      go_meet
      exact ⟨rfl, E.out.1, E.out.2.1, E.out.2.2.1, E.out.2.2.2⟩
  case rest =>
  obtain ⟨rfl, hp', hk', hh', hq'⟩ := hcut
  clear hp hk hh hq hb0
  rename World => u1
  have hp := hp'
  have hk := hk'
  have hh := hh'
  have hq := hq'
  clear hp' hk' hh' hq'
  obtain ⟨B5, hb1⟩ : ∃ B : Bool, decide (0 < bits .and .u8 a 32) = B := ⟨_, rfl⟩
  obtain ⟨L0, hl1⟩ : ∃ L : Int, L = if B5 then 3 else 0 := ⟨_, rfl⟩
  obtain ⟨W5, hw1⟩ : ∃ W : Int, W = if B5 then 123 else W6 := ⟨_, rfl⟩
  have HL1 := Lib.hid hl1
  have HW1 := Lib.hid hw1
  clear hl1 hw1
  go_upto_if 30 with fail
  go_cut [11] (fun e wx => e = .int .i64 W5 ∧ wx.heap[g]? = some (.cells #[.int .i64 p.step, .int .i64 p.watch, .int .i64 p.panic, .int .i64 p.maxrate, .int .i64 p.phi, .int .i64 p.maxdist, .int .i64 p.gate, .int .i64 p.minpoll, .int .i64 p.maxpoll, .int .i64 p.burst, .int .i64 p.minsane, .int .i64 p.minleft] 23 (0, 0)) ∧ wx.heap[g + 1]? = some (.cells #[.int .i64 4, .int .u64 o, .int .u64 77] 26 (0, 0)) ∧ wx.heap[g + 1 + 1]? = some (.cells #[.int .i64 L0, .int .i64 4, .int .i64 4, .int .i64 1, .int .i64 0, .int .i64 0, .int .u32 0, .int .u32 L7, .int .u32 0, .int .u64 0, .int .u64 o, .int .u64 1, .int .u64 2] 29 (0, 0)) ∧ Below w.heap.size w wx)
  case first =>
    have fz : u1.frozen? ⟨g + 1 + 1, 0, none⟩ = false := by simp [World.frozen?, hh]
    obtain ⟨h0, h1, h2, h3, h4, h5, h6, h7, h8, h9, h10, h11, h12⟩ := thirteen_in hh
    have hl := (Array.getElem?_eq_some_iff.1 hh).1
    cases B5
    · obtain rfl := (HL1.out).trans (if_neg Bool.false_ne_true)
      obtain rfl := (HW1.out).trans (if_neg Bool.false_ne_true)
      have E := Lib.hid (And.intro hp (And.intro hk (And.intro hh hq)))
      clear hp hk hh hq
      go_wp2_with fail
      go_meet
      exact ⟨rfl, E.out.1, E.out.2.1, E.out.2.2.1, E.out.2.2.2⟩
    · obtain rfl := (HL1.out).trans (if_pos rfl)
      obtain rfl := (HW1.out).trans (if_pos rfl)
      have hh2 : (u1.setCell ⟨g + 1 + 1, 0, none⟩ (.int .i64 3)).heap[g + 1 + 1]? = some (.cells #[.int .i64 3, .int .i64 4, .int .i64 4, .int .i64 1, .int .i64 0, .int .i64 0, .int .u32 0, .int .u32 L7, .int .u32 0, .int .u64 0, .int .u64 o, .int .u64 1, .int .u64 2] 29 (0, 0)) := block_set 0 (.int .i64 3) hh
      have hp2 : (u1.setCell ⟨g + 1 + 1, 0, none⟩ (.int .i64 3)).heap[g]? = _ := (block_far (w := u1) (b := g + 1 + 1) (k := g) 0 (.int .i64 3) (by omega)).trans hp
      have hk2 : (u1.setCell ⟨g + 1 + 1, 0, none⟩ (.int .i64 3)).heap[g + 1]? = _ := (block_far (w := u1) (b := g + 1 + 1) (k := g + 1) 0 (.int .i64 3) (by omega)).trans hk
      have hq2 := hq.setCell (p := ⟨g + 1 + 1, 0, none⟩) (show w.heap.size ≤ g + 1 + 1 by omega) (.int .i64 3)
      have E := Lib.hid (And.intro hp2 (And.intro hk2 (And.intro hh2 hq2)))
      clear hp hk hh hq hp2 hk2 hh2 hq2
      go_wp2_with fail
      go_meet
      exact ⟨rfl, E.out.1, E.out.2.1, E.out.2.2.1, E.out.2.2.2⟩
  case rest =>
  obtain ⟨rfl, hp', hk', hh', hq'⟩ := hcut
  clear hp hk hh hq hb1
  rename World => u2
  have hp := hp'
  have hk := hk'
  have hh := hh'
  have hq := hq'
  clear hp' hk' hh' hq'
  obtain ⟨B4, hb2⟩ : ∃ B : Bool, decide (0 < bits .and .u8 a 16) = B := ⟨_, rfl⟩
  obtain ⟨L3, hl2⟩ : ∃ L : Int, L = if B4 then 0 else 1 := ⟨_, rfl⟩
  obtain ⟨W4, hw2⟩ : ∃ W : Int, W = if B4 then 125 else W5 := ⟨_, rfl⟩
  have HL2 := Lib.hid hl2
  have HW2 := Lib.hid hw2
  clear hl2 hw2
  go_upto_if 34 with fail
  go_cut [11] (fun e wx => e = .int .i64 W4 ∧ wx.heap[g]? = some (.cells #[.int .i64 p.step, .int .i64 p.watch, .int .i64 p.panic, .int .i64 p.maxrate, .int .i64 p.phi, .int .i64 p.maxdist, .int .i64 p.gate, .int .i64 p.minpoll, .int .i64 p.maxpoll, .int .i64 p.burst, .int .i64 p.minsane, .int .i64 p.minleft] 23 (0, 0)) ∧ wx.heap[g + 1]? = some (.cells #[.int .i64 4, .int .u64 o, .int .u64 77] 26 (0, 0)) ∧ wx.heap[g + 1 + 1]? = some (.cells #[.int .i64 L0, .int .i64 4, .int .i64 4, .int .i64 L3, .int .i64 0, .int .i64 0, .int .u32 0, .int .u32 L7, .int .u32 0, .int .u64 0, .int .u64 o, .int .u64 1, .int .u64 2] 29 (0, 0)) ∧ Below w.heap.size w wx)
  case first =>
    have fz : u2.frozen? ⟨g + 1 + 1, 3, none⟩ = false := by simp [World.frozen?, hh]
    obtain ⟨h0, h1, h2, h3, h4, h5, h6, h7, h8, h9, h10, h11, h12⟩ := thirteen_in hh
    have hl := (Array.getElem?_eq_some_iff.1 hh).1
    cases B4
    · obtain rfl := (HL2.out).trans (if_neg Bool.false_ne_true)
      obtain rfl := (HW2.out).trans (if_neg Bool.false_ne_true)
      have E := Lib.hid (And.intro hp (And.intro hk (And.intro hh hq)))
      clear hp hk hh hq
      go_wp2_with fail
      go_meet
      exact ⟨rfl, E.out.1, E.out.2.1, E.out.2.2.1, E.out.2.2.2⟩
    · obtain rfl := (HL2.out).trans (if_pos rfl)
      obtain rfl := (HW2.out).trans (if_pos rfl)
      have hh2 : (u2.setCell ⟨g + 1 + 1, 3, none⟩ (.int .i64 0)).heap[g + 1 + 1]? = some (.cells #[.int .i64 L0, .int .i64 4, .int .i64 4, .int .i64 0, .int .i64 0, .int .i64 0, .int .u32 0, .int .u32 L7, .int .u32 0, .int .u64 0, .int .u64 o, .int .u64 1, .int .u64 2] 29 (0, 0)) := block_set 3 (.int .i64 0) hh
      have hp2 : (u2.setCell ⟨g + 1 + 1, 3, none⟩ (.int .i64 0)).heap[g]? = _ := (block_far (w := u2) (b := g + 1 + 1) (k := g) 3 (.int .i64 0) (by omega)).trans hp
      have hk2 : (u2.setCell ⟨g + 1 + 1, 3, none⟩ (.int .i64 0)).heap[g + 1]? = _ := (block_far (w := u2) (b := g + 1 + 1) (k := g + 1) 3 (.int .i64 0) (by omega)).trans hk
      have hq2 := hq.setCell (p := ⟨g + 1 + 1, 3, none⟩) (show w.heap.size ≤ g + 1 + 1 by omega) (.int .i64 0)
      have E := Lib.hid (And.intro hp2 (And.intro hk2 (And.intro hh2 hq2)))
      clear hp hk hh hq hp2 hk2 hh2 hq2
      go_wp2_with fail
      go_meet
      exact ⟨rfl, E.out.1, E.out.2.1, E.out.2.2.1, E.out.2.2.2⟩
  case rest =>
  obtain ⟨rfl, hp', hk', hh', hq'⟩ := hcut
  clear hp hk hh hq hb2
  rename World => u3
  have hp := hp'
  have hk := hk'
  have hh := hh'
  have hq := hq'
  clear hp' hk' hh' hq'
  obtain ⟨B3, hb3⟩ : ∃ B : Bool, decide (0 < bits .and .u8 a 8) = B := ⟨_, rfl⟩
  obtain ⟨L10, hl3⟩ : ∃ L : Int, L = if B3 then O1 else o := ⟨_, rfl⟩
  obtain ⟨W3, hw3⟩ : ∃ W : Int, W = if B3 then 122 else W4 := ⟨_, rfl⟩
  have HL3 := Lib.hid hl3
  have HW3 := Lib.hid hw3
  clear hl3 hw3
  go_upto_if 38 with fail
  go_cut [11] (fun e wx => e = .int .i64 W3 ∧ wx.heap[g]? = some (.cells #[.int .i64 p.step, .int .i64 p.watch, .int .i64 p.panic, .int .i64 p.maxrate, .int .i64 p.phi, .int .i64 p.maxdist, .int .i64 p.gate, .int .i64 p.minpoll, .int .i64 p.maxpoll, .int .i64 p.burst, .int .i64 p.minsane, .int .i64 p.minleft] 23 (0, 0)) ∧ wx.heap[g + 1]? = some (.cells #[.int .i64 4, .int .u64 o, .int .u64 77] 26 (0, 0)) ∧ wx.heap[g + 1 + 1]? = some (.cells #[.int .i64 L0, .int .i64 4, .int .i64 4, .int .i64 L3, .int .i64 0, .int .i64 0, .int .u32 0, .int .u32 L7, .int .u32 0, .int .u64 0, .int .u64 L10, .int .u64 1, .int .u64 2] 29 (0, 0)) ∧ Below w.heap.size w wx)
  case first =>
    have fz : u3.frozen? ⟨g + 1 + 1, 10, none⟩ = false := by simp [World.frozen?, hh]
    obtain ⟨h0, h1, h2, h3, h4, h5, h6, h7, h8, h9, h10, h11, h12⟩ := thirteen_in hh
    have hl := (Array.getElem?_eq_some_iff.1 hh).1
    cases B3
    · obtain rfl := (HL3.out).trans (if_neg Bool.false_ne_true)
      obtain rfl := (HW3.out).trans (if_neg Bool.false_ne_true)
      have E := Lib.hid (And.intro hp (And.intro hk (And.intro hh hq)))
      clear hp hk hh hq
      go_wp2_with fail
      go_meet
      exact ⟨rfl, E.out.1, E.out.2.1, E.out.2.2.1, E.out.2.2.2⟩
    · obtain rfl := (HL3.out).trans (if_pos rfl)
      obtain rfl := (HW3.out).trans (if_pos rfl)
      have hs : IntKind.u64.wrap (o + 1) = L10 := by rw [IntKind.wrap_u64]; exact HO1.out.symm
      have hh2 : (u3.setCell ⟨g + 1 + 1, 10, none⟩ (.int .u64 L10)).heap[g + 1 + 1]? = some (.cells #[.int .i64 L0, .int .i64 4, .int .i64 4, .int .i64 L3, .int .i64 0, .int .i64 0, .int .u32 0, .int .u32 L7, .int .u32 0, .int .u64 0, .int .u64 L10, .int .u64 1, .int .u64 2] 29 (0, 0)) := block_set 10 (.int .u64 L10) hh
      have hp2 : (u3.setCell ⟨g + 1 + 1, 10, none⟩ (.int .u64 L10)).heap[g]? = _ := (block_far (w := u3) (b := g + 1 + 1) (k := g) 10 (.int .u64 L10) (by omega)).trans hp
      have hk2 : (u3.setCell ⟨g + 1 + 1, 10, none⟩ (.int .u64 L10)).heap[g + 1]? = _ := (block_far (w := u3) (b := g + 1 + 1) (k := g + 1) 10 (.int .u64 L10) (by omega)).trans hk
      have hq2 := hq.setCell (p := ⟨g + 1 + 1, 10, none⟩) (show w.heap.size ≤ g + 1 + 1 by omega) (.int .u64 L10)
      have E := Lib.hid (And.intro hp2 (And.intro hk2 (And.intro hh2 hq2)))
      clear hp hk hh hq hp2 hk2 hh2 hq2
      go_wp2_with fail
      go_meet
      exact ⟨rfl, E.out.1, E.out.2.1, E.out.2.2.1, E.out.2.2.2⟩
  case rest =>
  obtain ⟨rfl, hp', hk', hh', hq'⟩ := hcut
  clear hp hk hh hq hb3
  rename World => u4
  have hp := hp'
  have hk := hk'
  have hh := hh'
  have hq := hq'
  clear hp' hk' hh' hq'
  obtain ⟨B2, hb4⟩ : ∃ B : Bool, decide (0 < bits .and .u8 a 4) = B := ⟨_, rfl⟩
  obtain ⟨L12, hl4⟩ : ∃ L : Int, L = if B2 then 77 else 2 := ⟨_, rfl⟩
  obtain ⟨W2, hw4⟩ : ∃ W : Int, W = if B2 then 121 else W3 := ⟨_, rfl⟩
  have HL4 := Lib.hid hl4
  have HW4 := Lib.hid hw4
  clear hl4 hw4
  go_upto_if 44 with fail
  go_cut [11] (fun e wx => e = .int .i64 W2 ∧ wx.heap[g]? = some (.cells #[.int .i64 p.step, .int .i64 p.watch, .int .i64 p.panic, .int .i64 p.maxrate, .int .i64 p.phi, .int .i64 p.maxdist, .int .i64 p.gate, .int .i64 p.minpoll, .int .i64 p.maxpoll, .int .i64 p.burst, .int .i64 p.minsane, .int .i64 p.minleft] 23 (0, 0)) ∧ wx.heap[g + 1]? = some (.cells #[.int .i64 4, .int .u64 o, .int .u64 77] 26 (0, 0)) ∧ wx.heap[g + 1 + 1]? = some (.cells #[.int .i64 L0, .int .i64 4, .int .i64 4, .int .i64 L3, .int .i64 0, .int .i64 0, .int .u32 0, .int .u32 L7, .int .u32 0, .int .u64 0, .int .u64 L10, .int .u64 1, .int .u64 L12] 29 (0, 0)) ∧ Below w.heap.size w wx)
  case first =>
    have fz : u4.frozen? ⟨g + 1 + 1, 12, none⟩ = false := by simp [World.frozen?, hh]
    obtain ⟨h0, h1, h2, h3, h4, h5, h6, h7, h8, h9, h10, h11, h12⟩ := thirteen_in hh
    have hl := (Array.getElem?_eq_some_iff.1 hh).1
    cases B2
    · obtain rfl := (HL4.out).trans (if_neg Bool.false_ne_true)
      obtain rfl := (HW4.out).trans (if_neg Bool.false_ne_true)
      have E := Lib.hid (And.intro hp (And.intro hk (And.intro hh hq)))
      clear hp hk hh hq
      go_wp2_with fail
      go_meet
      exact ⟨rfl, E.out.1, E.out.2.1, E.out.2.2.1, E.out.2.2.2⟩
    · obtain rfl := (HL4.out).trans (if_pos rfl)
      obtain rfl := (HW4.out).trans (if_pos rfl)
      have hh2 : (u4.setCell ⟨g + 1 + 1, 12, none⟩ (.int .u64 77)).heap[g + 1 + 1]? = some (.cells #[.int .i64 L0, .int .i64 4, .int .i64 4, .int .i64 L3, .int .i64 0, .int .i64 0, .int .u32 0, .int .u32 L7, .int .u32 0, .int .u64 0, .int .u64 L10, .int .u64 1, .int .u64 77] 29 (0, 0)) := block_set 12 (.int .u64 77) hh
      have hp2 : (u4.setCell ⟨g + 1 + 1, 12, none⟩ (.int .u64 77)).heap[g]? = _ := (block_far (w := u4) (b := g + 1 + 1) (k := g) 12 (.int .u64 77) (by omega)).trans hp
      have hk2 : (u4.setCell ⟨g + 1 + 1, 12, none⟩ (.int .u64 77)).heap[g + 1]? = _ := (block_far (w := u4) (b := g + 1 + 1) (k := g + 1) 12 (.int .u64 77) (by omega)).trans hk
      have hq2 := hq.setCell (p := ⟨g + 1 + 1, 12, none⟩) (show w.heap.size ≤ g + 1 + 1 by omega) (.int .u64 77)
      have E := Lib.hid (And.intro hp2 (And.intro hk2 (And.intro hh2 hq2)))
      clear hp hk hh hq hp2 hk2 hh2 hq2
      go_wp2_with fail
      go_meet
      exact ⟨rfl, E.out.1, E.out.2.1, E.out.2.2.1, E.out.2.2.2⟩
  case rest =>
  obtain ⟨rfl, hp', hk', hh', hq'⟩ := hcut
  clear hp hk hh hq hb4
  rename World => u5
  have hp := hp'
  have hk := hk'
  have hh := hh'
  have hq := hq'
  clear hp' hk' hh' hq'
  obtain ⟨B1, hb5⟩ : ∃ B : Bool, decide (0 < bits .and .u8 a 2) = B := ⟨_, rfl⟩
  obtain ⟨L2, hl5⟩ : ∃ L : Int, L = if B1 then 3 else 4 := ⟨_, rfl⟩
  obtain ⟨W1, hw5⟩ : ∃ W : Int, W = if B1 then 120 else W2 := ⟨_, rfl⟩
  have HL5 := Lib.hid hl5
  have HW5 := Lib.hid hw5
  clear hl5 hw5
  go_upto_if 48 with fail
  go_cut [11] (fun e wx => e = .int .i64 W1 ∧ wx.heap[g]? = some (.cells #[.int .i64 p.step, .int .i64 p.watch, .int .i64 p.panic, .int .i64 p.maxrate, .int .i64 p.phi, .int .i64 p.maxdist, .int .i64 p.gate, .int .i64 p.minpoll, .int .i64 p.maxpoll, .int .i64 p.burst, .int .i64 p.minsane, .int .i64 p.minleft] 23 (0, 0)) ∧ wx.heap[g + 1]? = some (.cells #[.int .i64 4, .int .u64 o, .int .u64 77] 26 (0, 0)) ∧ wx.heap[g + 1 + 1]? = some (.cells #[.int .i64 L0, .int .i64 4, .int .i64 L2, .int .i64 L3, .int .i64 0, .int .i64 0, .int .u32 0, .int .u32 L7, .int .u32 0, .int .u64 0, .int .u64 L10, .int .u64 1, .int .u64 L12] 29 (0, 0)) ∧ Below w.heap.size w wx)
  case first =>
    have fz : u5.frozen? ⟨g + 1 + 1, 2, none⟩ = false := by simp [World.frozen?, hh]
    obtain ⟨h0, h1, h2, h3, h4, h5, h6, h7, h8, h9, h10, h11, h12⟩ := thirteen_in hh
    have hl := (Array.getElem?_eq_some_iff.1 hh).1
    cases B1
    · obtain rfl := (HL5.out).trans (if_neg Bool.false_ne_true)
      obtain rfl := (HW5.out).trans (if_neg Bool.false_ne_true)
      have E := Lib.hid (And.intro hp (And.intro hk (And.intro hh hq)))
      clear hp hk hh hq
      go_wp2_with fail
      go_meet
      exact ⟨rfl, E.out.1, E.out.2.1, E.out.2.2.1, E.out.2.2.2⟩
    · obtain rfl := (HL5.out).trans (if_pos rfl)
      obtain rfl := (HW5.out).trans (if_pos rfl)
      have hh2 : (u5.setCell ⟨g + 1 + 1, 2, none⟩ (.int .i64 3)).heap[g + 1 + 1]? = some (.cells #[.int .i64 L0, .int .i64 4, .int .i64 3, .int .i64 L3, .int .i64 0, .int .i64 0, .int .u32 0, .int .u32 L7, .int .u32 0, .int .u64 0, .int .u64 L10, .int .u64 1, .int .u64 L12] 29 (0, 0)) := block_set 2 (.int .i64 3) hh
      have hp2 : (u5.setCell ⟨g + 1 + 1, 2, none⟩ (.int .i64 3)).heap[g]? = _ := (block_far (w := u5) (b := g + 1 + 1) (k := g) 2 (.int .i64 3) (by omega)).trans hp
      have hk2 : (u5.setCell ⟨g + 1 + 1, 2, none⟩ (.int .i64 3)).heap[g + 1]? = _ := (block_far (w := u5) (b := g + 1 + 1) (k := g + 1) 2 (.int .i64 3) (by omega)).trans hk
      have hq2 := hq.setCell (p := ⟨g + 1 + 1, 2, none⟩) (show w.heap.size ≤ g + 1 + 1 by omega) (.int .i64 3)
      have E := Lib.hid (And.intro hp2 (And.intro hk2 (And.intro hh2 hq2)))
      clear hp hk hh hq hp2 hk2 hh2 hq2
      go_wp2_with fail
      go_meet
      exact ⟨rfl, E.out.1, E.out.2.1, E.out.2.2.1, E.out.2.2.2⟩
  case rest =>
  obtain ⟨rfl, hp', hk', hh', hq'⟩ := hcut
  clear hp hk hh hq hb5
  rename World => u6
  have hp := hp'
  have hk := hk'
  have hh := hh'
  have hq := hq'
  clear hp' hk' hh' hq'
  obtain ⟨B0, hb6⟩ : ∃ B : Bool, decide (0 < bits .and .u8 a 1) = B := ⟨_, rfl⟩
  obtain ⟨L1, hl6⟩ : ∃ L : Int, L = if B0 then 3 else 4 := ⟨_, rfl⟩
  obtain ⟨W0, hw6⟩ : ∃ W : Int, W = if B0 then 51 else W1 := ⟨_, rfl⟩
  have HL6 := Lib.hid hl6
  have HW6 := Lib.hid hw6
  clear hl6 hw6
  go_upto_if 52 with fail
  go_cut [11] (fun e wx => e = .int .i64 W0 ∧ wx.heap[g]? = some (.cells #[.int .i64 p.step, .int .i64 p.watch, .int .i64 p.panic, .int .i64 p.maxrate, .int .i64 p.phi, .int .i64 p.maxdist, .int .i64 p.gate, .int .i64 p.minpoll, .int .i64 p.maxpoll, .int .i64 p.burst, .int .i64 p.minsane, .int .i64 p.minleft] 23 (0, 0)) ∧ wx.heap[g + 1]? = some (.cells #[.int .i64 4, .int .u64 o, .int .u64 77] 26 (0, 0)) ∧ wx.heap[g + 1 + 1]? = some (.cells #[.int .i64 L0, .int .i64 L1, .int .i64 L2, .int .i64 L3, .int .i64 0, .int .i64 0, .int .u32 0, .int .u32 L7, .int .u32 0, .int .u64 0, .int .u64 L10, .int .u64 1, .int .u64 L12] 29 (0, 0)) ∧ Below w.heap.size w wx)
  case first =>
    have fz : u6.frozen? ⟨g + 1 + 1, 1, none⟩ = false := by simp [World.frozen?, hh]
    obtain ⟨h0, h1, h2, h3, h4, h5, h6, h7, h8, h9, h10, h11, h12⟩ := thirteen_in hh
    have hl := (Array.getElem?_eq_some_iff.1 hh).1
    cases B0
    · obtain rfl := (HL6.out).trans (if_neg Bool.false_ne_true)
      obtain rfl := (HW6.out).trans (if_neg Bool.false_ne_true)
      have E := Lib.hid (And.intro hp (And.intro hk (And.intro hh hq)))
      clear hp hk hh hq
      go_wp2_with fail
      go_meet
      exact ⟨rfl, E.out.1, E.out.2.1, E.out.2.2.1, E.out.2.2.2⟩
    · obtain rfl := (HL6.out).trans (if_pos rfl)
      obtain rfl := (HW6.out).trans (if_pos rfl)
      have hh2 : (u6.setCell ⟨g + 1 + 1, 1, none⟩ (.int .i64 3)).heap[g + 1 + 1]? = some (.cells #[.int .i64 L0, .int .i64 3, .int .i64 L2, .int .i64 L3, .int .i64 0, .int .i64 0, .int .u32 0, .int .u32 L7, .int .u32 0, .int .u64 0, .int .u64 L10, .int .u64 1, .int .u64 L12] 29 (0, 0)) := block_set 1 (.int .i64 3) hh
      have hp2 : (u6.setCell ⟨g + 1 + 1, 1, none⟩ (.int .i64 3)).heap[g]? = _ := (block_far (w := u6) (b := g + 1 + 1) (k := g) 1 (.int .i64 3) (by omega)).trans hp
      have hk2 : (u6.setCell ⟨g + 1 + 1, 1, none⟩ (.int .i64 3)).heap[g + 1]? = _ := (block_far (w := u6) (b := g + 1 + 1) (k := g + 1) 1 (.int .i64 3) (by omega)).trans hk
      have hq2 := hq.setCell (p := ⟨g + 1 + 1, 1, none⟩) (show w.heap.size ≤ g + 1 + 1 by omega) (.int .i64 3)
      have E := Lib.hid (And.intro hp2 (And.intro hk2 (And.intro hh2 hq2)))
      clear hp hk hh hq hp2 hk2 hh2 hq2
      go_wp2_with fail
      go_meet
      exact ⟨rfl, E.out.1, E.out.2.1, E.out.2.2.1, E.out.2.2.2⟩
  case rest =>
  obtain ⟨rfl, hp', hk', hh', hq'⟩ := hcut
  clear hp hk hh hq hb6
  rename World => u7
  have hp := hp'
  have hk := hk'
  have hh := hh'
  have hq := hq'
  clear hp' hk' hh' hq'
  have ej := first_wrong p HD.out o O1 or1.1 tO1.2.2 B6 B5 B4 B3 B2 B1 B0 L7 L0 L3 L10 L12 L2 L1 W6 W5 W4 W3 W2 W1 W0 HL0.out HL1.out HL2.out HL3.out HL4.out HL5.out HL6.out HW0.out HW1.out HW2.out HW3.out HW4.out HW5.out HW6.out
  have ta : Aq.Typed ⟨4, o, 77⟩ := ⟨by dsimp only; decide, by dsimp only; omega, by dsimp only; decide⟩
  have r7 : 0 ≤ L7 ∧ L7 ≤ 1048576 := by rw [HL0.out]; split <;> decide
  have r0 : 0 ≤ L0 ∧ L0 ≤ 3 := by rw [HL1.out]; split <;> decide
  have r3 : 0 ≤ L3 ∧ L3 ≤ 1 := by rw [HL2.out]; split <;> decide
  have r10 : 0 ≤ L10 ∧ L10 < 18446744073709551616 := by rw [HL3.out]; split <;> omega
  have r12 : 0 ≤ L12 ∧ L12 ≤ 77 := by rw [HL4.out]; split <;> decide
  have r2 : 0 ≤ L2 ∧ L2 ≤ 4 := by rw [HL5.out]; split <;> decide
  have r1 : 0 ≤ L1 ∧ L1 ≤ 4 := by rw [HL6.out]; split <;> decide
  have th : Hd.Typed ⟨L0, L1, L2, L3, 0, 0, 0, L7, 0, 0, L10, 1, L12⟩ := by
    constructor
    all_goals (dsimp only; omega)
  have c3 := jjudge_any p H.typed _ ta _ th
  rw [ej] at c3
  unfold Pm.val Aq.val Hd.val at c3
  dsimp only at c3
  clear ej ta th r7 r0 r3 r10 r12 r2 r1
  clear HL0 HL1 HL2 HL3 HL4 HL5 HL6 HW0 HW1 HW2 HW3 HW4 HW5 HW6 HO1 HD H tO1
  obtain ⟨q0, q1, q2, q3, q4, q5, q6, q7, q8, q9, q10, q11⟩ := twelve_at hp
  obtain ⟨b0, b1, b2⟩ := three_in hk
  obtain ⟨h0, h1, h2, h3, h4, h5, h6, h7, h8, h9, h10, h11, h12⟩ := thirteen_in hh
  clear hp hk hh
  go_wp2_with fail
  (with_reducible refine (c3 _).mono ?_)
  rintro e v1 ⟨rfl, hB3⟩
  have hq3 := hq.trans (hB3.mono hq.size)
  go_wp2_with fail
  (with_reducible refine (c4 _).mono ?_)
  rintro e v2 ⟨rfl, hB4⟩
  have hq4 := hq3.trans (hB4.mono hq3.size)
  go_wp2_with fail
  go_ret
  exact ⟨rfl, hq4⟩
set_option maxRecDepth 100000 in
theorem lifted (os : Os) (started : os.Started) (H : Type) (enc : TypeId × Value → H) :
    ReturnsInHanded {} Try.checked os 6 .any (Rows.checksOrderSpec.pre6 enc Try.prog Try.f6 Rows.checksOrderRow.domain false) (Rows.checksOrderSpec.post enc Try.prog Try.f6 false true false false) := by
  refine returnsInHanded_of_change (C := Try.checked) own started (by kernel_rfl) Try.func6
    (ChangeSpec.witness6 (enc := enc) (C := Try.checked) false ⟨#[], #[.int .u8 0, .int .u64 0], []⟩ 8 (by kernel_rfl) (by kernel_rfl) (by kernel_rfl) (by kernel_rfl)) ?_
  intro W base args ds gs before hval0 hW hcnd _
  have hval : ∀ (j : Nat) t v, Try.f6.params[j]? = some t → args[j]? = some v → Value.okWide Try.prog W .any base t v := hval0
  have hW' := hW
  obtain ⟨p, q, hA0, hV, rfl, hfz, hnd⟩ := hW
  have hA : DataW.TrodAll enc Try.prog W 0 (fun _ => true) true Try.f6.params.toList args.toList ds p := hA0
  rw [Try.params6] at hA hval
  obtain ⟨v0, vs0, d0, ds0, p0, q0, hargs, rfl, rfl, h0, r0⟩ := trodAll_cons hA
  obtain ⟨v1, vs1, d1, ds1, p1, q1, rfl, rfl, rfl, h1, r1⟩ := trodAll_cons r0
  obtain ⟨rfl, rfl, rfl⟩ := trodAll_nil r1
  obtain rfl : args = #[v0, v1] := by cases args; simp_all
  obtain ⟨rfl, rfl⟩ := trodVars_none hV
  obtain ⟨a0, rfl, rfl, rfl, w0⟩ := open_int Try.underlying5 (hval 0 5 v0 rfl rfl) h0
  obtain ⟨a1, rfl, rfl, rfl, w1⟩ := open_int Try.underlying24 (hval 1 24 v1 rfl rfl) h1
  clear hA0 hval0
  refine (walk a0 a1 W w0 w1).mono fun e W' ⟨he, bel⟩ => ?_
  subst he
  exact ⟨_, rfl, _, _, _, [], _, [], hW', trodAll_mk1 (shut_bool Try.underlying4 _), (trodAll_cons_mk (shut_int Try.underlying5 w0) (trodAll_cons_mk (shut_int Try.underlying24 w1) trodAll_mk0)), rfl, bel.frame _, fun h => by cases h⟩

theorem over : Rows.checksOrderRow.holds Try.pinned (OpenSpec.ofChange Rows.checksOrderSpec) :=
  OpenClaim.holds_of_wide 6 Try.f6 rfl rfl rfl rfl rfl rfl rfl ⟨rfl, rfl, rfl, rfl, rfl⟩ rfl rfl rfl rfl rfl (by kernel_rfl) Try.func6 (by kernel_rfl)
    (of_decide_eq_true (by kernel_rfl)) (by unfold Func.isWrapper; first | (rw [if_pos (by decide +kernel)]; kernel_rfl) | (rw [if_neg (by decide +kernel)]; exact ⟨rfl, rfl⟩))
    (fun os started H enc _ => lifted os started H enc)

theorem proved : Rows.ChecksOrderSaid := over
end Go.Proofs.Ytjelbpibofngiaa.ChecksOrder
