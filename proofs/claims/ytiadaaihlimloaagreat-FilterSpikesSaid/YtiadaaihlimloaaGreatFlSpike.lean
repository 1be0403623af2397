/- FilterSpikes: an offset far from all others is not told, as long as it is new. No condition. -/
import Derived.Test.YtiadaaihlimloaaGreatFrE
import Derived.Test.YtiadaaihlimloaaGreatFrS
import Derived.Test.YtiadaaihlimloaaGreatQtB
import Derived.BigQuiet
import Derived.WalkKit
import Derived.WalkSpells
import Derived.WalkLawsBesides
import Derived.Lib.Hide
import Derived.Handy
import Derived.ProofKit
import Derived.OpenShut
import Derived.ShutString
import Derived.ChangeOld
import Derived.Below
namespace Go.Proofs.YtiadaaihlimloaaGreat.FilterSpikes
open Go.Proofs.YtiadaaihlimloaaGreat.W
open Go.ChangeShapes Go.WideShapes Go.ChangeAt Go.RowKit
open Go.ChangeMaps (open_string shut_string)
set_option linter.unusedVariables false
theorem own : ownKnob Tryz.prog.godebug = none := by kernel_rfl
theorem laidOut : laidOutB Tryz.prog = true := by kernel_rfl
open Go.Sort
set_option linter.unusedSimpArgs false
attribute [local go_sem ↓] ldFl_eq stFl_eq ldTd_eq stTd_eq
attribute [local go_sem] load_tdS
abbrev pC (p : Pm) : Array Value := #[.int .i64 p.step, .int .i64 p.watch, .int .i64 p.panic, .int .i64 p.maxrate, .int .i64 p.phi, .int .i64 p.maxdist, .int .i64 p.gate, .int .i64 p.minpoll, .int .i64 p.maxpoll, .int .i64 p.burst, .int .i64 p.minsane, .int .i64 p.minleft]
set_option maxRecDepth 100000 in
set_option maxHeartbeats 25600000 in
theorem walk (o far total late : Int) (w : World) (wo : (Lit.int .i32 o).wf = true) (wf : (Lit.int .u16 far).wf = true) (wt : (Lit.int .i32 total).wf = true) (wl : (Lit.int .u8 late).wf = true) :
    Calls Tryz.prog 7 #[.int .i32 o, .int .u16 far, .int .i32 total, .int .u8 late] w fun e w' => e = .returned (.bool true) ∧ Below w.heap.size w w' := by
  have o0 : -2147483648 ≤ o ∧ o ≤ 2147483647 := by have := bounds_i32 wo; omega
  have f0 : 0 ≤ far ∧ far ≤ 65535 := by have := bounds_u16 wf; omega
  have t0 : -2147483648 ≤ total ∧ total ≤ 2147483647 := by have := bounds_i32 wt; omega
  have l0 : 0 ≤ late ∧ late ≤ 255 := by have := bounds_u8 wl; omega
  clear wo wf wt wl
  have c1 := std14_any
  have c4 := shown14_any
  have H := std_params
  generalize chkP stdC = p at *
  have ts : ∀ i, i < 4 → (spS o i).Typed := fun i hi => ⟨by show -9223372036854775808 ≤ o ∧ o ≤ _; omega, by show (-9223372036854775808 : Int) ≤ 1000 ∧ (1000 : Int) ≤ _; decide, by show (-9223372036854775808 : Int) ≤ 10 ∧ (10 : Int) ≤ _; decide, by show -9223372036854775808 ≤ (i : Int) * 4294967296 ∧ (i : Int) * 4294967296 ≤ _; omega, by show (-9223372036854775808 : Int) ≤ 0 ∧ (0 : Int) ≤ _; decide⟩
  have tl : ∀ s ∈ spL o, s.Typed := fun s hs => by
    unfold spL at hs
    obtain ⟨k, hk, rfl⟩ := List.mem_map.1 hs
    exact ts k (List.mem_range.1 hk)
  have F0 : ∀ i, (Fl.mk (newS (spL o) i) false 0 0 0 0).Typed := fun i => ⟨new_typed tl i, by show (newS (spL o) i).length ≤ 8; unfold newS; rw [List.length_take]; omega, by dsimp only; decide, by dsimp only; decide, by dsimp only; decide, by dsimp only; decide⟩
  have tF : (spF o).Typed := ⟨(F0 4).l, (F0 4).many, by show (-9223372036854775808 : Int) ≤ 12884901888 ∧ (12884901888 : Int) ≤ _; decide, by show -9223372036854775808 ≤ o ∧ o ≤ _; omega, by show (-9223372036854775808 : Int) ≤ 0 ∧ (0 : Int) ≤ _; decide, by show (-9223372036854775808 : Int) ≤ 4096 ∧ (4096 : Int) ≤ _; decide⟩
  unfold Pm.val at *
  go_enter Tryz.func7, Tryz.ntmps7
  go_wp2_with fail
  (with_reducible refine (c1 _).mono ?_)
  rintro e w1 ⟨rfl, hB1⟩
  have hB2 := (hB1.alloc hB1.size (.cells (pC p) 38)).alloc (by simp; have := hB1.size; omega) (.cells Fl.zero.cells 29)
  have hr2 := rowOf_new1 w1 (.cells (pC p) 38) Fl.zero.cells 29
  have hp2 : ((w1.alloc (.cells (pC p) 38)).alloc (.cells Fl.zero.cells 29)).heap[w1.heap.size]? = some (.cells (pC p) 38 (0, 0)) := laidF _ (heap_alloc_new w1 _)
  have hl2 := ltn1 w1 (.cells (pC p) 38) (.cells Fl.zero.cells 29)
  have hw1 := hB1.size
  clear hB1
  go_upto_region 3 with (first | (refine at_alloc_fl rfl rfl ?_) | (refine at_store_fl rfl _ _ rfl _ rfl Fl.zero rfl _ (rowOf_new _ _ _) ?_; rw [setRow_new]))
  simp only [Act.put, List.setIfInBounds_toArray, List.set_cons_succ, List.set_cons_zero, World.size_alloc]
  generalize (w1.alloc (.cells #[.int .i64 p.step, .int .i64 p.watch, .int .i64 p.panic, .int .i64 p.maxrate, .int .i64 p.phi, .int .i64 p.maxdist, .int .i64 p.gate, .int .i64 p.minpoll, .int .i64 p.maxpoll, .int .i64 p.burst, .int .i64 p.minsane, .int .i64 p.minleft] 38)).alloc (.cells Fl.zero.cells 29) = w2 at *
  have hwb : w.heap.size ≤ w1.heap.size + 1 := by omega
  go_wp2_with fail
  go_loopw [11] (fun i wr => ∃ k : Nat, k ≤ 4 ∧ i = .int .i64 k ∧ rowOf wr (w1.heap.size + 1) = (Fl.mk (newS (spL o) k) false 0 0 0 0).cells ∧ wr.heap[w1.heap.size]? = some (.cells (pC p) 38 (0, 0)) ∧ Below w.heap.size w wr ∧ w1.heap.size + 1 < wr.heap.size) (fun i _ => 4 - (intOf i).toNat)
  case atStart => exact ⟨0, Nat.zero_le _, rfl, by rw [new_zero]; exact hr2, hp2, hB2, hl2⟩
  case round =>
    obtain ⟨k, hk, rfl, hr, hp, hB, hlt⟩ := hrel
    by_cases hk2 : k < 4
    · have cp := fput_any _ (F0 k) _ (ts k (by omega))
      have nx := new_next (spL o) k _ (spL_at o (by omega))
      have ep : putF ⟨newS (spL o) k, false, 0, 0, 0, 0⟩ (spS o k) = ⟨newS (spL o) (k + 1), false, 0, 0, 0, 0⟩ := by unfold putF; rw [nx]
      rw [ep] at cp
      unfold Fl.val Smp.val spS at cp
      dsimp only at cp
      clear ep nx c1 c4
      go_wp2_with (refine at_load_fl rfl _ rfl (w1.heap.size + 1) rfl _ hr ?_)
      (with_reducible refine (cp _).mono ?_)
      rintro e w3 ⟨rfl, hw⟩
      have hr3 := (rowOf_kept (n := 46) (by rw [hr]; rfl) (by decide) hw).trans hr
      have hp3 := keptF hp hw
      have hB3 := hB.trans (hw.mono hB.size)
      have hl3 : w1.heap.size + 1 < w3.heap.size := Nat.lt_of_lt_of_le hlt hw.size
      go_wp2_with (refine at_store_fl rfl _ _ rfl (w1.heap.size + 1) rfl _ rfl _ hr3 ?_)
      have hr4 := rowOf_set (Fl.mk (newS (spL o) (k + 1)) false 0 0 0 0).cells (show (rowOf w3 (w1.heap.size + 1)).size = 46 by rw [hr3]; rfl) (by decide)
      have hp4 := rowFar (Fl.mk (newS (spL o) (k + 1)) false 0 0 0 0).cells (show w1.heap.size ≠ w1.heap.size + 1 by omega) hp3
      have hB4 := below_row (Fl.mk (newS (spL o) (k + 1)) false 0 0 0 0).cells hB3 hwb
      have hl4 : w1.heap.size + 1 < (w3.setRow (w1.heap.size + 1) (Fl.mk (newS (spL o) (k + 1)) false 0 0 0 0).cells).heap.size := by simpa [World.setRow] using hl3
      go_roundw
      case rel => exact ⟨k + 1, by omega, by go_num, hr4, hp4, hB4, hl4⟩
      case measure => simp [intOf]; omega
    · obtain rfl : k = 4 := by omega
      obtain ⟨et, ef⟩ := sp_take p o o0
      have ct := ftake_any p H.typed _ (F0 4) (-20) 6 17179869184 0 (by decide) (by decide) (by decide) (by decide)
      rw [et, ef] at ct
      obtain ⟨⟨x0, x1, x2, x3, x4⟩, hT1⟩ : ∃ T, takeT p ⟨newS (spL o) 4, false, 0, 0, 0, 0⟩ (-20) 6 17179869184 0 = T := ⟨_, rfl⟩
      rw [hT1] at ct
      unfold Fl.val Told.val Pm.val at ct
      dsimp only at ct
      clear hT1 et ef F0 tl ts hr2 hp2 hB2 hl2 hk hk2
      obtain ⟨a0, a1, a2, a3, a4, a5, a6, a7, a8, a9, a10, a11⟩ := twelve_at hp
      go_wp2_with (refine at_load_fl rfl _ rfl (w1.heap.size + 1) rfl _ hr ?_)
      (with_reducible refine (ct _).mono ?_)
      rintro e w3 ⟨rfl, hw⟩
      have hp3 := keptF hp hw
      have hB3 := hB.trans (hw.mono hB.size)
      have hl3 : w1.heap.size + 1 < w3.heap.size := Nat.lt_of_lt_of_le hlt hw.size
      clear hp hB hlt hr hw a0 a1 a2 a3 a4 a5 a6 a7 a8 a9 a10 a11
      have z1 : rowOf ((w3.alloc (.cells Fl.zero.cells 29)).alloc (.cells #[.int .i64 0, .int .i64 0, .int .i64 0, .int .i64 0, .int .i64 0] 33)) w3.heap.size = Fl.zero.cells := (rowOf_old1 _ _ _).trans (rowOf_new _ _ _)
      have z2 : rowOf ((w3.alloc (.cells Fl.zero.cells 29)).alloc (.cells #[.int .i64 0, .int .i64 0, .int .i64 0, .int .i64 0, .int .i64 0] 33)) (w3.heap.size + 1) = #[.int .i64 0, .int .i64 0, .int .i64 0, .int .i64 0, .int .i64 0] := rowOf_new1 _ _ _ _
      have y2 : (rowOf (((w3.alloc (.cells Fl.zero.cells 29)).alloc (.cells #[.int .i64 0, .int .i64 0, .int .i64 0, .int .i64 0, .int .i64 0] 33)).setRow w3.heap.size (spF o).cells) (w3.heap.size + 1)).size = 5 := by rw [rowOf_far _ (by omega), z2]; rfl
      have g5 : rowOf ((((w3.alloc (.cells Fl.zero.cells 29)).alloc (.cells #[.int .i64 0, .int .i64 0, .int .i64 0, .int .i64 0, .int .i64 0] 33)).setRow w3.heap.size (spF o).cells).setRow (w3.heap.size + 1) #[.int .i64 x0, .int .i64 x1, .int .i64 x2, .int .i64 x3, .int .i64 x4]) w3.heap.size = (spF o).cells := by rw [rowOf_far _ (by omega), rowOf_set (n := 46) _ (by rw [z1]; rfl) (by decide)]
      have hp5 := rowFar #[.int .i64 x0, .int .i64 x1, .int .i64 x2, .int .i64 x3, .int .i64 x4] (show w1.heap.size ≠ w3.heap.size + 1 by omega) (rowFar (spF o).cells (show w1.heap.size ≠ w3.heap.size by omega) (laidF (.cells #[.int .i64 0, .int .i64 0, .int .i64 0, .int .i64 0, .int .i64 0] 33) (laidF (.cells Fl.zero.cells 29) hp3)))
      have hB5 := below_row #[.int .i64 x0, .int .i64 x1, .int .i64 x2, .int .i64 x3, .int .i64 x4] (below_row (spF o).cells (al (al hB3 (.cells Fl.zero.cells 29)) (.cells #[.int .i64 0, .int .i64 0, .int .i64 0, .int .i64 0, .int .i64 0] 33)) hB3.size) (show w.heap.size ≤ w3.heap.size + 1 by have := hB3.size; omega)
      have l5 : w3.heap.size + 1 < ((((w3.alloc (.cells Fl.zero.cells 29)).alloc (.cells #[.int .i64 0, .int .i64 0, .int .i64 0, .int .i64 0, .int .i64 0] 33)).setRow w3.heap.size (spF o).cells).setRow (w3.heap.size + 1) #[.int .i64 x0, .int .i64 x1, .int .i64 x2, .int .i64 x3, .int .i64 x4]).heap.size := by simp [World.setRow]
      have hw3 := hB3.size
      have E5 := Lib.hid (And.intro z1 (And.intro y2 (And.intro g5 (And.intro hp5 (And.intro hB5 l5)))))
      clear hp3 hB3 c1 z1 z2 y2 g5 hp5 hB5 l5
      go_wp2_with (first | (refine at_alloc_fl rfl rfl ?_) | (refine at_store_fl rfl _ _ rfl w3.heap.size rfl (spF o) rfl _ E5.out.1 ?_))
      obtain ⟨-, -, g5, hp5, hB5, l5⟩ := E5.out
      clear E5
      generalize (((w3.alloc (.cells Fl.zero.cells 29)).alloc (.cells #[.int .i64 0, .int .i64 0, .int .i64 0, .int .i64 0, .int .i64 0] 33)).setRow w3.heap.size (spF o).cells).setRow (w3.heap.size + 1) #[.int .i64 x0, .int .i64 x1, .int .i64 x2, .int .i64 x3, .int .i64 x4] = w5 at *
      (with_reducible refine (c4 _).mono ?_)
      rintro e w6 ⟨rfl, hw6⟩
      have g6 := rowOf_ke g5 hw6
      have hp6 := keptF hp5 hw6
      have hB6 := belo hB5 hw6
      have l6 := Nat.lt_of_lt_of_le l5 hw6.size
      clear g5 hp5 hB5 l5 hw6 c4 ct
      obtain ⟨O, hO⟩ : ∃ O, o + (far + 1) * 4294967296 - total = O := ⟨_, rfl⟩
      obtain ⟨now, hnow⟩ : ∃ now, (5 + late) * 4294967296 = now := ⟨_, rfl⟩
      have bO : -9223372036854775808 ≤ O ∧ O ≤ 9223372036854775807 := by omega
      have bn : 21474836480 ≤ now ∧ now ≤ 1116691496960 := by omega
      have tn : (spN o O now total).Typed := ⟨by show -9223372036854775808 ≤ O ∧ O ≤ _; omega, by show (-9223372036854775808 : Int) ≤ 1 ∧ (1 : Int) ≤ _; decide, by show (-9223372036854775808 : Int) ≤ 10 ∧ (10 : Int) ≤ _; decide, by show -9223372036854775808 ≤ now ∧ now ≤ _; omega, by show -9223372036854775808 ≤ total ∧ total ≤ _; omega⟩
      obtain ⟨s1, s2, s3⟩ := sp_told p o o0 far total now f0 t0 bn
      rw [hO] at s1 s2 s3
      have cq := fput_any _ tF _ tn
      have tG := put_typed tF tn
      have ck := fun a b => ftake_any p H.typed _ tG (-20) 6 now total (by decide) (by decide) a b
      have cl := fun a b => ftell_any p H.typed _ tG (-20) now total (by decide) a b
      replace ck := ck (by omega) (by omega)
      replace cl := cl (by omega) (by omega)
      have hG0 : tellB (putF (spF o) (spN o O now total)) = true := rfl
      rw [hG0] at cl
      have hU : takeT p (putF (spF o) (spN o O now total)) (-20) 6 now total = if takeE p (putF (spF o) (spN o O now total)) (-20) 6 now total = 0 then tellT p (putF (spF o) (spN o O now total)) (-20) now total else Told.zero := rfl
      have hF : takeF p (putF (spF o) (spN o O now total)) (-20) 6 now total = if takeE p (putF (spF o) (spN o O now total)) (-20) 6 now total = 0 then ⟨(putF (spF o) (spN o O now total)).l, true, (tellT p (putF (spF o) (spN o O now total)) (-20) now total).at_, (tellT p (putF (spF o) (spN o O now total)) (-20) now total).off, total, (tellT p (putF (spF o) (spN o O now total)) (-20) now total).jit⟩ else putF (spF o) (spN o O now total) := rfl
      rw [hU, hF] at ck
      clear hU hF hG0 tF tG
      generalize takeE p (putF (spF o) (spN o O now total)) (-20) 6 now total = E at *
      generalize tellT p (putF (spF o) (spN o O now total)) (-20) now total = U at *
      obtain ⟨u0, u1, u2, u3, u4⟩ := U
      generalize putF (spF o) (spN o O now total) = G at *
      have e1 : O = u0 := s1.symm
      have e2 : now = u4 := s2.symm
      subst e1 e2
      clear s1 s2
      have qG := fl_eq G
      have qz := td_eq Told.zero
      have qu := td_eq ⟨O, u1, u2, u3, now⟩
      unfold Told.val Told.zero at *
      dsimp only at *
      obtain ⟨a0, a1, a2, a3, a4, a5, a6, a7, a8, a9, a10, a11⟩ := twelve_at hp6
      by_cases hs : now - 12884901888 < 549755813888
      · rw [if_pos hs] at s3
        subst s3
        rw [if_neg (by decide), if_neg (by decide)] at ck
        unfold Fl.val Smp.val Pm.val spN at *
        dsimp only at *
        have S6 := Lib.hid (And.intro g6 (And.intro hp6 (And.intro hB6 l6)))
        have QQ := Lib.hid (And.intro qG (And.intro qz qu))
        have TT := Lib.hid tn
        clear g6 hp6 hB6 l6 qG qz qu tn
        go_wp2_with (refine at_load_fl rfl _ rfl w3.heap.size rfl (spF o) S6.out.1 ?_)
        (with_reducible refine (cq _).mono ?_)
        rintro e w7 ⟨rfl, hw7⟩
        obtain ⟨g6, hp6, hB6, l6⟩ := S6.out
        have g7 := rowOf_ke g6 hw7
        have hp7 := keptF hp6 hw7
        have hB7 := belo hB6 hw7
        have l7 := Nat.lt_of_lt_of_le l6 hw7.size
        have g8 := rowOf_set G.cells (show (rowOf w7 w3.heap.size).size = 46 by rw [g7]; rfl) (by decide)
        have hp8 := rowFar G.cells (show w1.heap.size ≠ w3.heap.size by omega) hp7
        have hB8 := below_row G.cells hB7 hw3
        have l8 : w3.heap.size + 1 < (w7.setRow w3.heap.size G.cells).heap.size := by simpa [World.setRow] using l7
        obtain ⟨b0, b1, b2, b3, b4, b5, b6, b7, b8, b9, b10, b11⟩ := twelve_at hp8
        have S8 := Lib.hid (And.intro g7 (And.intro g8 (And.intro hp8 (And.intro hB8 l8))))
        clear a0 a1 a2 a3 a4 a5 a6 a7 a8 a9 a10 a11 g6 hp6 hB6 l6 hw7 g7 hp7 hB7 l7 g8 hp8 hB8 l8 S6 cq
        go_wp2_with (first | (refine at_store_fl rfl _ _ rfl w3.heap.size rfl G rfl _ S8.out.1 ?_) | (refine at_load_fl rfl _ rfl w3.heap.size rfl G S8.out.2.1 ?_))
        (with_reducible refine (ck _).mono ?_)
        rintro e w9 ⟨rfl, hw9⟩
        obtain ⟨-, g8, hp8, hB8, l8⟩ := S8.out
        have g9 := rowOf_ke g8 hw9
        have hp9 := keptF hp8 hw9
        have hB9 := belo hB8 hw9
        have l9 := Nat.lt_of_lt_of_le l8 hw9.size
        clear b0 b1 b2 b3 b4 b5 b6 b7 b8 b9 b10 b11 hw9 S8 g8 hp8 hB8 l8 ck
        have hz9 := hB9.size
        have z1 : rowOf ((w9.alloc (.cells Fl.zero.cells 29)).alloc (.cells #[.int .i64 0, .int .i64 0, .int .i64 0, .int .i64 0, .int .i64 0] 33)) w9.heap.size = Fl.zero.cells := (rowOf_old1 _ _ _).trans (rowOf_new _ _ _)
        have z2 : rowOf ((w9.alloc (.cells Fl.zero.cells 29)).alloc (.cells #[.int .i64 0, .int .i64 0, .int .i64 0, .int .i64 0, .int .i64 0] 33)) (w9.heap.size + 1) = #[.int .i64 0, .int .i64 0, .int .i64 0, .int .i64 0, .int .i64 0] := rowOf_new1 _ _ _ _
        have zg : rowOf ((w9.alloc (.cells Fl.zero.cells 29)).alloc (.cells #[.int .i64 0, .int .i64 0, .int .i64 0, .int .i64 0, .int .i64 0] 33)) w3.heap.size = G.cells := rowOf_al (rowOf_al g9)
        have h10 : rowOf ((((w9.alloc (.cells Fl.zero.cells 29)).alloc (.cells #[.int .i64 0, .int .i64 0, .int .i64 0, .int .i64 0, .int .i64 0] 33)).setRow w9.heap.size G.cells).setRow (w9.heap.size + 1) #[.int .i64 0, .int .i64 0, .int .i64 0, .int .i64 0, .int .i64 0]) w9.heap.size = G.cells := by rw [rowOf_far _ (by omega), rowOf_set (n := 46) _ (by rw [z1]; rfl) (by decide)]
        have t10 : rowOf ((((w9.alloc (.cells Fl.zero.cells 29)).alloc (.cells #[.int .i64 0, .int .i64 0, .int .i64 0, .int .i64 0, .int .i64 0] 33)).setRow w9.heap.size G.cells).setRow (w9.heap.size + 1) #[.int .i64 0, .int .i64 0, .int .i64 0, .int .i64 0, .int .i64 0]) (w9.heap.size + 1) = #[.int .i64 0, .int .i64 0, .int .i64 0, .int .i64 0, .int .i64 0] := rowOf_set (n := 5) _ (by rw [rowOf_far _ (by omega), z2]; rfl) (by decide)
        have g10 : rowOf ((((w9.alloc (.cells Fl.zero.cells 29)).alloc (.cells #[.int .i64 0, .int .i64 0, .int .i64 0, .int .i64 0, .int .i64 0] 33)).setRow w9.heap.size G.cells).setRow (w9.heap.size + 1) #[.int .i64 0, .int .i64 0, .int .i64 0, .int .i64 0, .int .i64 0]) w3.heap.size = G.cells := by rw [rowOf_far _ (by omega), rowOf_far _ (by omega), zg]
        have hp10 := rowFar #[.int .i64 0, .int .i64 0, .int .i64 0, .int .i64 0, .int .i64 0] (show w1.heap.size ≠ w9.heap.size + 1 by omega) (rowFar G.cells (show w1.heap.size ≠ w9.heap.size by omega) (laidF (.cells #[.int .i64 0, .int .i64 0, .int .i64 0, .int .i64 0, .int .i64 0] 33) (laidF (.cells Fl.zero.cells 29) hp9)))
        have hB10 := below_row #[.int .i64 0, .int .i64 0, .int .i64 0, .int .i64 0, .int .i64 0] (below_row G.cells (al (al hB9 (.cells Fl.zero.cells 29)) (.cells #[.int .i64 0, .int .i64 0, .int .i64 0, .int .i64 0, .int .i64 0] 33)) hz9) (show w.heap.size ≤ w9.heap.size + 1 by omega)
        have l10 : w9.heap.size + 1 < ((((w9.alloc (.cells Fl.zero.cells 29)).alloc (.cells #[.int .i64 0, .int .i64 0, .int .i64 0, .int .i64 0, .int .i64 0] 33)).setRow w9.heap.size G.cells).setRow (w9.heap.size + 1) #[.int .i64 0, .int .i64 0, .int .i64 0, .int .i64 0, .int .i64 0]).heap.size := by simp [World.setRow]
        obtain ⟨b0, b1, b2, b3, b4, b5, b6, b7, b8, b9, b10, b11⟩ := twelve_at hp10
        have S10 := Lib.hid (And.intro z1 (And.intro h10 (And.intro t10 (And.intro g10 (And.intro hp10 (And.intro hB10 l10))))))
        clear z1 z2 zg h10 t10 g10 hp10 hB10 l10 g9 hp9 hB9
        go_wp2_with (first | (refine at_alloc_fl rfl rfl ?_) | (refine at_store_fl rfl _ _ rfl w9.heap.size rfl G rfl _ S10.out.1 ?_) | (refine at_load_fl rfl _ rfl w3.heap.size rfl G S10.out.2.2.2.1 ?_))
        obtain ⟨-, h10, t10, g10, hp10, hB10, l10⟩ := S10.out
        clear S10 b0 b1 b2 b3 b4 b5 b6 b7 b8 b9 b10 b11
        generalize ((((w9.alloc (.cells Fl.zero.cells 29)).alloc (.cells #[.int .i64 0, .int .i64 0, .int .i64 0, .int .i64 0, .int .i64 0] 33)).setRow w9.heap.size G.cells).setRow (w9.heap.size + 1) #[.int .i64 0, .int .i64 0, .int .i64 0, .int .i64 0, .int .i64 0]) = w10 at *
        (with_reducible refine (cl _).mono ?_)
        rintro e w11 ⟨rfl, hw11⟩
        have h11 := rowOf_ke h10 hw11
        have t11 := (rowOf_kept (n := 5) (by rw [t10]; rfl) (by decide) hw11).trans t10
        have g11 := rowOf_ke g10 hw11
        have hB11 := belo hB10 hw11
        have l11 := Nat.lt_of_lt_of_le l10 hw11.size
        clear h10 t10 g10 hp10 hB10 l10 hw11 cl
        have hz11 := hB11.size
        have k1 : (rowOf (w11.alloc (.cells #[.int .i64 0, .int .i64 0, .int .i64 0, .int .i64 0, .int .i64 0] 33)) w11.heap.size).size = 5 := szn _ _ _ rfl
        have u12 : rowOf ((w11.alloc (.cells #[.int .i64 0, .int .i64 0, .int .i64 0, .int .i64 0, .int .i64 0] 33)).setRow w11.heap.size #[.int .i64 O, .int .i64 u1, .int .i64 u2, .int .i64 u3, .int .i64 now]) w11.heap.size = #[.int .i64 O, .int .i64 u1, .int .i64 u2, .int .i64 u3, .int .i64 now] := rowOf_set (n := 5) _ k1 (by decide)
        have h12 : rowOf ((w11.alloc (.cells #[.int .i64 0, .int .i64 0, .int .i64 0, .int .i64 0, .int .i64 0] 33)).setRow w11.heap.size #[.int .i64 O, .int .i64 u1, .int .i64 u2, .int .i64 u3, .int .i64 now]) w9.heap.size = G.cells := by rw [rowOf_far _ (by omega), rowOf_al h11]
        have t12 : rowOf ((w11.alloc (.cells #[.int .i64 0, .int .i64 0, .int .i64 0, .int .i64 0, .int .i64 0] 33)).setRow w11.heap.size #[.int .i64 O, .int .i64 u1, .int .i64 u2, .int .i64 u3, .int .i64 now]) (w9.heap.size + 1) = #[.int .i64 0, .int .i64 0, .int .i64 0, .int .i64 0, .int .i64 0] := by rw [rowOf_far _ (by omega), rowOf_old _ l11, t11]
        have g12 : rowOf ((w11.alloc (.cells #[.int .i64 0, .int .i64 0, .int .i64 0, .int .i64 0, .int .i64 0] 33)).setRow w11.heap.size #[.int .i64 O, .int .i64 u1, .int .i64 u2, .int .i64 u3, .int .i64 now]) w3.heap.size = G.cells := by rw [rowOf_far _ (by omega), rowOf_al g11]
        have hB12 := below_row #[.int .i64 O, .int .i64 u1, .int .i64 u2, .int .i64 u3, .int .i64 now] (al hB11 (.cells #[.int .i64 0, .int .i64 0, .int .i64 0, .int .i64 0, .int .i64 0] 33)) hz11
        have S12 := Lib.hid (And.intro u12 (And.intro h12 (And.intro t12 (And.intro g12 hB12))))
        clear k1 u12 h12 t12 g12 hB12 h11 t11 g11 hB11
        go_upto_region 15 with fail
        obtain ⟨u12, h12, t12, g12, hB12⟩ := S12.out
        clear S12
        generalize ((w11.alloc (.cells #[.int .i64 0, .int .i64 0, .int .i64 0, .int .i64 0, .int .i64 0] 33)).setRow w11.heap.size #[.int .i64 O, .int .i64 u1, .int .i64 u2, .int .i64 u3, .int .i64 now]) = w12 at *
        have s0 := (cell_of u12 (by simp) 0).trans (show _ = some (Value.int .i64 O) from rfl)
        obtain ⟨qG, qz, qu⟩ := QQ.out
        have HB := Lib.hid hB12
        clear hB12 QQ
        go_wp2_with fail
        go_ret
        exact ⟨rfl, HB.out⟩
      · rw [if_neg hs] at s3
        subst s3
        rw [if_pos rfl, if_pos rfl] at ck
        have hF2 : (Fl.mk G.l true now O total u3).cells[42]? = some (.int .i64 now) := rfl
        generalize Fl.mk G.l true now O total u3 = F2 at *
        unfold Fl.val Smp.val Pm.val spN at *
        dsimp only at *
        have S6 := Lib.hid (And.intro g6 (And.intro hp6 (And.intro hB6 l6)))
        have QQ := Lib.hid (And.intro qG (And.intro qz qu))
        have TT := Lib.hid tn
        clear g6 hp6 hB6 l6 qG qz qu tn
        go_wp2_with (refine at_load_fl rfl _ rfl w3.heap.size rfl (spF o) S6.out.1 ?_)
        (with_reducible refine (cq _).mono ?_)
        rintro e w7 ⟨rfl, hw7⟩
        obtain ⟨g6, hp6, hB6, l6⟩ := S6.out
        have g7 := rowOf_ke g6 hw7
        have hp7 := keptF hp6 hw7
        have hB7 := belo hB6 hw7
        have l7 := Nat.lt_of_lt_of_le l6 hw7.size
        have g8 := rowOf_set G.cells (show (rowOf w7 w3.heap.size).size = 46 by rw [g7]; rfl) (by decide)
        have hp8 := rowFar G.cells (show w1.heap.size ≠ w3.heap.size by omega) hp7
        have hB8 := below_row G.cells hB7 hw3
        have l8 : w3.heap.size + 1 < (w7.setRow w3.heap.size G.cells).heap.size := by simpa [World.setRow] using l7
        obtain ⟨b0, b1, b2, b3, b4, b5, b6, b7, b8, b9, b10, b11⟩ := twelve_at hp8
        have S8 := Lib.hid (And.intro g7 (And.intro g8 (And.intro hp8 (And.intro hB8 l8))))
        clear a0 a1 a2 a3 a4 a5 a6 a7 a8 a9 a10 a11 g6 hp6 hB6 l6 hw7 g7 hp7 hB7 l7 g8 hp8 hB8 l8 S6 cq
        go_wp2_with (first | (refine at_store_fl rfl _ _ rfl w3.heap.size rfl G rfl _ S8.out.1 ?_) | (refine at_load_fl rfl _ rfl w3.heap.size rfl G S8.out.2.1 ?_))
        (with_reducible refine (ck _).mono ?_)
        rintro e w9 ⟨rfl, hw9⟩
        obtain ⟨-, g8, hp8, hB8, l8⟩ := S8.out
        have g9 := rowOf_ke g8 hw9
        have hp9 := keptF hp8 hw9
        have hB9 := belo hB8 hw9
        have l9 := Nat.lt_of_lt_of_le l8 hw9.size
        clear b0 b1 b2 b3 b4 b5 b6 b7 b8 b9 b10 b11 hw9 S8 g8 hp8 hB8 l8 ck
        have hz9 := hB9.size
        have z1 : rowOf ((w9.alloc (.cells Fl.zero.cells 29)).alloc (.cells #[.int .i64 0, .int .i64 0, .int .i64 0, .int .i64 0, .int .i64 0] 33)) w9.heap.size = Fl.zero.cells := (rowOf_old1 _ _ _).trans (rowOf_new _ _ _)
        have z2 : rowOf ((w9.alloc (.cells Fl.zero.cells 29)).alloc (.cells #[.int .i64 0, .int .i64 0, .int .i64 0, .int .i64 0, .int .i64 0] 33)) (w9.heap.size + 1) = #[.int .i64 0, .int .i64 0, .int .i64 0, .int .i64 0, .int .i64 0] := rowOf_new1 _ _ _ _
        have zg : rowOf ((w9.alloc (.cells Fl.zero.cells 29)).alloc (.cells #[.int .i64 0, .int .i64 0, .int .i64 0, .int .i64 0, .int .i64 0] 33)) w3.heap.size = G.cells := rowOf_al (rowOf_al g9)
        have h10 : rowOf ((((w9.alloc (.cells Fl.zero.cells 29)).alloc (.cells #[.int .i64 0, .int .i64 0, .int .i64 0, .int .i64 0, .int .i64 0] 33)).setRow w9.heap.size F2.cells).setRow (w9.heap.size + 1) #[.int .i64 O, .int .i64 u1, .int .i64 u2, .int .i64 u3, .int .i64 now]) w9.heap.size = F2.cells := by rw [rowOf_far _ (by omega), rowOf_set (n := 46) _ (by rw [z1]; rfl) (by decide)]
        have t10 : rowOf ((((w9.alloc (.cells Fl.zero.cells 29)).alloc (.cells #[.int .i64 0, .int .i64 0, .int .i64 0, .int .i64 0, .int .i64 0] 33)).setRow w9.heap.size F2.cells).setRow (w9.heap.size + 1) #[.int .i64 O, .int .i64 u1, .int .i64 u2, .int .i64 u3, .int .i64 now]) (w9.heap.size + 1) = #[.int .i64 O, .int .i64 u1, .int .i64 u2, .int .i64 u3, .int .i64 now] := rowOf_set (n := 5) _ (by rw [rowOf_far _ (by omega), z2]; rfl) (by decide)
        have g10 : rowOf ((((w9.alloc (.cells Fl.zero.cells 29)).alloc (.cells #[.int .i64 0, .int .i64 0, .int .i64 0, .int .i64 0, .int .i64 0] 33)).setRow w9.heap.size F2.cells).setRow (w9.heap.size + 1) #[.int .i64 O, .int .i64 u1, .int .i64 u2, .int .i64 u3, .int .i64 now]) w3.heap.size = G.cells := by rw [rowOf_far _ (by omega), rowOf_far _ (by omega), zg]
        have hp10 := rowFar #[.int .i64 O, .int .i64 u1, .int .i64 u2, .int .i64 u3, .int .i64 now] (show w1.heap.size ≠ w9.heap.size + 1 by omega) (rowFar F2.cells (show w1.heap.size ≠ w9.heap.size by omega) (laidF (.cells #[.int .i64 0, .int .i64 0, .int .i64 0, .int .i64 0, .int .i64 0] 33) (laidF (.cells Fl.zero.cells 29) hp9)))
        have hB10 := below_row #[.int .i64 O, .int .i64 u1, .int .i64 u2, .int .i64 u3, .int .i64 now] (below_row F2.cells (al (al hB9 (.cells Fl.zero.cells 29)) (.cells #[.int .i64 0, .int .i64 0, .int .i64 0, .int .i64 0, .int .i64 0] 33)) hz9) (show w.heap.size ≤ w9.heap.size + 1 by omega)
        have l10 : w9.heap.size + 1 < ((((w9.alloc (.cells Fl.zero.cells 29)).alloc (.cells #[.int .i64 0, .int .i64 0, .int .i64 0, .int .i64 0, .int .i64 0] 33)).setRow w9.heap.size F2.cells).setRow (w9.heap.size + 1) #[.int .i64 O, .int .i64 u1, .int .i64 u2, .int .i64 u3, .int .i64 now]).heap.size := by simp [World.setRow]
        obtain ⟨b0, b1, b2, b3, b4, b5, b6, b7, b8, b9, b10, b11⟩ := twelve_at hp10
        have S10 := Lib.hid (And.intro z1 (And.intro h10 (And.intro t10 (And.intro g10 (And.intro hp10 (And.intro hB10 l10))))))
        clear z1 z2 zg h10 t10 g10 hp10 hB10 l10 g9 hp9 hB9
        go_wp2_with (first | (refine at_alloc_fl rfl rfl ?_) | (refine at_store_fl rfl _ _ rfl w9.heap.size rfl F2 rfl _ S10.out.1 ?_) | (refine at_load_fl rfl _ rfl w3.heap.size rfl G S10.out.2.2.2.1 ?_))
        obtain ⟨-, h10, t10, g10, hp10, hB10, l10⟩ := S10.out
        clear S10 b0 b1 b2 b3 b4 b5 b6 b7 b8 b9 b10 b11
        generalize ((((w9.alloc (.cells Fl.zero.cells 29)).alloc (.cells #[.int .i64 0, .int .i64 0, .int .i64 0, .int .i64 0, .int .i64 0] 33)).setRow w9.heap.size F2.cells).setRow (w9.heap.size + 1) #[.int .i64 O, .int .i64 u1, .int .i64 u2, .int .i64 u3, .int .i64 now]) = w10 at *
        (with_reducible refine (cl _).mono ?_)
        rintro e w11 ⟨rfl, hw11⟩
        have h11 := rowOf_ke h10 hw11
        have t11 := (rowOf_kept (n := 5) (by rw [t10]; rfl) (by decide) hw11).trans t10
        have g11 := rowOf_ke g10 hw11
        have hB11 := belo hB10 hw11
        have l11 := Nat.lt_of_lt_of_le l10 hw11.size
        clear h10 t10 g10 hp10 hB10 l10 hw11 cl
        have hz11 := hB11.size
        have k1 : (rowOf (w11.alloc (.cells #[.int .i64 0, .int .i64 0, .int .i64 0, .int .i64 0, .int .i64 0] 33)) w11.heap.size).size = 5 := szn _ _ _ rfl
        have u12 : rowOf ((w11.alloc (.cells #[.int .i64 0, .int .i64 0, .int .i64 0, .int .i64 0, .int .i64 0] 33)).setRow w11.heap.size #[.int .i64 O, .int .i64 u1, .int .i64 u2, .int .i64 u3, .int .i64 now]) w11.heap.size = #[.int .i64 O, .int .i64 u1, .int .i64 u2, .int .i64 u3, .int .i64 now] := rowOf_set (n := 5) _ k1 (by decide)
        have h12 : rowOf ((w11.alloc (.cells #[.int .i64 0, .int .i64 0, .int .i64 0, .int .i64 0, .int .i64 0] 33)).setRow w11.heap.size #[.int .i64 O, .int .i64 u1, .int .i64 u2, .int .i64 u3, .int .i64 now]) w9.heap.size = F2.cells := by rw [rowOf_far _ (by omega), rowOf_al h11]
        have t12 : rowOf ((w11.alloc (.cells #[.int .i64 0, .int .i64 0, .int .i64 0, .int .i64 0, .int .i64 0] 33)).setRow w11.heap.size #[.int .i64 O, .int .i64 u1, .int .i64 u2, .int .i64 u3, .int .i64 now]) (w9.heap.size + 1) = #[.int .i64 O, .int .i64 u1, .int .i64 u2, .int .i64 u3, .int .i64 now] := by rw [rowOf_far _ (by omega), rowOf_old _ l11, t11]
        have g12 : rowOf ((w11.alloc (.cells #[.int .i64 0, .int .i64 0, .int .i64 0, .int .i64 0, .int .i64 0] 33)).setRow w11.heap.size #[.int .i64 O, .int .i64 u1, .int .i64 u2, .int .i64 u3, .int .i64 now]) w3.heap.size = G.cells := by rw [rowOf_far _ (by omega), rowOf_al g11]
        have hB12 := below_row #[.int .i64 O, .int .i64 u1, .int .i64 u2, .int .i64 u3, .int .i64 now] (al hB11 (.cells #[.int .i64 0, .int .i64 0, .int .i64 0, .int .i64 0, .int .i64 0] 33)) hz11
        have S12 := Lib.hid (And.intro u12 (And.intro h12 (And.intro t12 (And.intro g12 hB12))))
        clear k1 u12 h12 t12 g12 hB12 h11 t11 g11 hB11
        go_upto_region 15 with fail
        obtain ⟨u12, h12, t12, g12, hB12⟩ := S12.out
        clear S12
        generalize ((w11.alloc (.cells #[.int .i64 0, .int .i64 0, .int .i64 0, .int .i64 0, .int .i64 0] 33)).setRow w11.heap.size #[.int .i64 O, .int .i64 u1, .int .i64 u2, .int .i64 u3, .int .i64 now]) = w12 at *
        have s0 := (cell_of u12 (by simp) 0).trans (show _ = some (Value.int .i64 O) from rfl)
        have s42 := (cell_of h12 (by show 0 < 46; decide) 42).trans hF2
        obtain ⟨qG, qz, qu⟩ := QQ.out
        have HB := Lib.hid hB12
        clear hB12 QQ
        go_wp2_with fail
        go_ret
        exact ⟨rfl, HB.out⟩
set_option maxRecDepth 100000 in
theorem lifted (os : Os) (started : os.Started) (H : Type) (enc : TypeId × Value → H) :
    ReturnsInHanded {} Tryz.checked os 7 .any (Rows.filterSpikesSpec.pre6 enc Tryz.prog Tryz.f7 Rows.filterSpikesRow.domain false) (Rows.filterSpikesSpec.post enc Tryz.prog Tryz.f7 false true false false) := by
  refine returnsInHanded_of_change (C := Tryz.checked) own started (by kernel_rfl) Tryz.func7
    (ChangeSpec.witness6 (enc := enc) (C := Tryz.checked) false ⟨#[], #[.int .i32 0, .int .u16 0, .int .i32 0, .int .u8 0], []⟩ 8 (by kernel_rfl) (by kernel_rfl) (by kernel_rfl) (by kernel_rfl)) ?_
  intro W base args ds gs before hval0 hW hcnd _
  have hval : ∀ (j : Nat) t v, Tryz.f7.params[j]? = some t → args[j]? = some v → Value.okWide Tryz.prog W .any base t v := hval0
  have hW' := hW
  obtain ⟨p, q, hA0, hV, rfl, hfz, hnd⟩ := hW
  have hA : DataW.TrodAll enc Tryz.prog W 0 (fun _ => true) true Tryz.f7.params.toList args.toList ds p := hA0
  rw [Tryz.params7] at hA hval
  obtain ⟨v0, vs0, d0, ds0, p0, q0, hargs, rfl, rfl, h0, r0⟩ := trodAll_cons hA
  obtain ⟨v1, vs1, d1, ds1, p1, q1, rfl, rfl, rfl, h1, r1⟩ := trodAll_cons r0
  obtain ⟨v2, vs2, d2, ds2, p2, q2, rfl, rfl, rfl, h2, r2⟩ := trodAll_cons r1
  obtain ⟨v3, vs3, d3, ds3, p3, q3, rfl, rfl, rfl, h3, r3⟩ := trodAll_cons r2
  obtain ⟨rfl, rfl, rfl⟩ := trodAll_nil r3
  obtain rfl : args = #[v0, v1, v2, v3] := by cases args; simp_all
  obtain ⟨rfl, rfl⟩ := trodVars_none hV
  obtain ⟨a0, rfl, rfl, rfl, w0⟩ := open_int Tryz.underlying21 (hval 0 21 v0 rfl rfl) h0
  obtain ⟨a1, rfl, rfl, rfl, w1⟩ := open_int Tryz.underlying30 (hval 1 30 v1 rfl rfl) h1
  obtain ⟨a2, rfl, rfl, rfl, w2⟩ := open_int Tryz.underlying21 (hval 2 21 v2 rfl rfl) h2
  obtain ⟨a3, rfl, rfl, rfl, w3⟩ := open_int Tryz.underlying5 (hval 3 5 v3 rfl rfl) h3
  clear hA0 hval0
  refine (walk a0 a1 a2 a3 W w0 w1 w2 w3).mono fun e W' ⟨he, bel⟩ => ?_
  subst he
  exact ⟨_, rfl, _, _, _, [], _, [], hW', trodAll_mk1 (shut_bool Tryz.underlying4 _), (trodAll_cons_mk (shut_int Tryz.underlying21 w0) (trodAll_cons_mk (shut_int Tryz.underlying30 w1) (trodAll_cons_mk (shut_int Tryz.underlying21 w2) (trodAll_cons_mk (shut_int Tryz.underlying5 w3) trodAll_mk0)))), rfl, bel.frame _, fun h => by cases h⟩

theorem over : Rows.filterSpikesRow.holds Tryz.pinned (OpenSpec.ofChange Rows.filterSpikesSpec) :=
  OpenClaim.holds_of_wide 7 Tryz.f7 rfl rfl rfl rfl rfl rfl rfl ⟨rfl, rfl, rfl, rfl, rfl⟩ rfl rfl rfl rfl rfl (by kernel_rfl) Tryz.func7 (by kernel_rfl)
    (of_decide_eq_true (by kernel_rfl)) (by unfold Func.isWrapper; first | (rw [if_pos (by decide +kernel)]; kernel_rfl) | (rw [if_neg (by decide +kernel)]; exact ⟨rfl, rfl⟩))
    (fun os started H enc _ => lifted os started H enc)

theorem proved : Rows.FilterSpikesSaid := over
end Go.Proofs.YtiadaaihlimloaaGreat.FilterSpikes
