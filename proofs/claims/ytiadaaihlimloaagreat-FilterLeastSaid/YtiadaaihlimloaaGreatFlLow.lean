/- FilterLeast: the sample that counts is one of the eight newest, with the least delay of them; which one it is does not hang on corrections. No condition. (Written by wip/genFlLow.py.) -/
import Derived.Test.YtiadaaihlimloaaGreatFrE
import Derived.Test.YtiadaaihlimloaaGreatFrO
import Derived.Test.YtiadaaihlimloaaGreatQtB
import Derived.BigQuiet
import Derived.WalkKit
import Derived.WalkSpells
import Derived.WalkLawsBesides
import Derived.Lib.Hide
import Derived.Handy
import Derived.ProofKit
import Derived.OpenShut
import Derived.ShutString
import Derived.ChangeOld
import Derived.Below
namespace Go.Proofs.YtiadaaihlimloaaGreat.FilterLeast
open Go.Proofs.YtiadaaihlimloaaGreat.W
open Go.ChangeShapes Go.WideShapes Go.ChangeAt Go.RowKit
open Go.ChangeMaps (open_string shut_string)
set_option linter.unusedVariables false
theorem own : ownKnob Tryz.prog.godebug = none := by kernel_rfl
theorem laidOut : laidOutB Tryz.prog = true := by kernel_rfl
open Go.Sort
set_option linter.unusedSimpArgs false
attribute [local go_sem ↓] ldFl_eq stFl_eq ldTd_eq stTd_eq
theorem end_one {w X : World} {k n : Nat} (C : Array Value) (hk : (rowOf X k).size = 5) (hB : Below n w X) (hn : n ≤ k) : rowOf (X.setRow k C) k = C ∧ Below n w (X.setRow k C) :=
  ⟨rowOf_set C hk (by decide), below_row _ hB hn⟩
theorem quiet_world14 {v v' : World} (h : ∃ p : Regrown, v' = grow (redrawn v p.d) p.os) : Below v.heap.size v v' := by
  obtain ⟨p, rfl⟩ := h
  exact below_regrown v p.d p.os
theorem smp_eql (a b c d e : Int) (w : World) : (binOp .eql 26 (.agg #[.int .i64 a, .int .i64 b, .int .i64 c, .int .i64 d, .int .i64 e]) (.agg #[.int .i64 a, .int .i64 b, .int .i64 c, .int .i64 d, .int .i64 e])).run Tryz.prog w = .ok (.bool true) w := by
  simp [go_sem]
theorem row5_kept {w w' : World} {b : Nat} {a0 a1 a2 a3 a4 : Value} (h : rowOf w b = #[a0, a1, a2, a3, a4]) (g : Below w.heap.size w w') : rowOf w' b = #[a0, a1, a2, a3, a4] := (rowOf_kept (n := 5) (by rw [h]; rfl) (by decide) g).trans h
set_option maxRecDepth 100000 in
set_option maxHeartbeats 51200000 in
theorem walk (v : Value) (l : List Smp) (own total : Int) (w : World) (hv : SlAt (fun b => b < w.heap.size) 5 smE w v l) (tl : ∀ s ∈ l, s.Typed) (hl : l.length ≤ maxLen) (wo : (Lit.int .i8 own).wf = true) (wt : (Lit.int .i32 total).wf = true) :
    Calls Tryz.prog 4 #[v, .int .i8 own, .int .i32 total] w fun e w' => e = .returned (.bool true) ∧ Below w.heap.size w w' := by
  have hm : l.length ≤ 9223372036854775807 := by unfold maxLen at hl; omega
  have o0 : -128 ≤ own ∧ own ≤ 127 := by have := bounds_i8 wo; omega
  have t0 : -2147483648 ≤ total ∧ total ≤ 2147483647 := by have := bounds_i32 wt; omega
  clear wo wt hl
  have c1 := std14_any
  have c4 := shown14_any
  have H := std_params
  generalize chkP stdC = p at *
  obtain ⟨sx, sc, rfl⟩ := hv.slice
  by_cases h200 : 200 < l.length
  · go_enter Tryz.func4, Tryz.ntmps4
    go_wp2_with fail
    (with_reducible refine (c4 _).mono ?_)
    rintro e w1 ⟨rfl, hB1⟩
    go_wp2_with fail
    go_ret
    exact ⟨rfl, hB1⟩
  by_cases hz : l = []
  · subst hz
    go_enter Tryz.func4, Tryz.ntmps4
    go_wp2_with fail
    (with_reducible refine (c4 _).mono ?_)
    rintro e w1 ⟨rfl, hB1⟩
    go_wp2_with fail
    go_ret
    exact ⟨rfl, hB1⟩
  · have hpos : 0 < l.length := List.length_pos_iff.2 hz
    have hb0 : ((l.length : Int) == 0) = false := by simp; omega
    have F0 : ∀ i, (Fl.mk (newS l i) false 0 0 0 0).Typed := fun i => ⟨new_typed tl i, by show (newS l i).length ≤ 8; unfold newS; rw [List.length_take]; omega, by dsimp only; decide, by dsimp only; decide, by dsimp only; decide, by dsimp only; decide⟩
    obtain ⟨bs1, bs2⟩ := best_new hz
    have HZ := Lib.hid hz
    clear hz
    go_enter Tryz.func4, Tryz.ntmps4
    go_wp2_with fail
    (with_reducible refine (c4 _).mono ?_)
    rintro e w1 ⟨rfl, hB1⟩
    clear c4
    go_wp2_with (first | (refine at_alloc_fl rfl rfl ?_) | (refine at_store_fl rfl _ _ rfl _ rfl Fl.zero rfl _ (rowOf_new _ _ _) ?_; rw [setRow_new]))
    have hr2 := rowOf_new w1 Fl.zero.cells 29
    have hB2 := hB1.alloc hB1.size (.cells Fl.zero.cells 29)
    have hl2 : w1.heap.size < (w1.alloc (.cells Fl.zero.cells 29)).heap.size := by simp
    have hwb := hB1.size
    generalize w1.alloc (.cells Fl.zero.cells 29) = w2 at *
    go_loopw [8] (fun i wr => ∃ k : Nat, k ≤ l.length ∧ i = .int .i64 k ∧ rowOf wr w1.heap.size = (Fl.mk (newS l k) false 0 0 0 0).cells ∧ Below w.heap.size w wr ∧ w1.heap.size < wr.heap.size) (fun i _ => l.length - (intOf i).toNat)
    case atStart => exact ⟨0, Nat.zero_le _, rfl, by rw [new_zero]; exact hr2, hB2, hl2⟩
    case round =>
      obtain ⟨k, hk, rfl, hr, hB, hlt⟩ := hrel
      by_cases hk2 : k < l.length
      · obtain ⟨x, hx⟩ : ∃ x, l[k]? = some x := ⟨_, List.getElem?_eq_getElem hk2⟩
        have tx : x.Typed := tl x (List.mem_of_getElem? hx)
        have nx := new_next l k x hx
        have cp := fput_any _ (F0 k) x tx
        have ep : putF ⟨newS l k, false, 0, 0, 0, 0⟩ x = ⟨newS l (k + 1), false, 0, 0, 0, 0⟩ := by unfold putF; rw [nx]
        rw [ep] at cp
        clear ep nx bs1 bs2
        rcases hv with ⟨_, _, _, _, rfl⟩ | ⟨sb, off, cap, hsv, hsb, hcell⟩
        · simp at hk2
        · cases hsv
          have at_w : ∀ j u, (smE x)[j]? = some u → wr.cell? ⟨sb, off + k * 5 + j, none⟩ = some u := fun j u hu => by rw [hB.cell (show sb < w.heap.size from hsb)]; exact hcell k x hx j u hu
          have s0 := at_w 0 _ rfl
          have s1 := at_w 1 _ rfl
          have s2 := at_w 2 _ rfl
          have s3 := at_w 3 _ rfl
          have s4 := at_w 4 _ rfl
          rw [Nat.add_zero] at s0
          have k0 := cell_regrown s0
          have k1 := cell_regrown s1
          have k2 := cell_regrown s2
          have k3 := cell_regrown s3
          have k4 := cell_regrown s4
          have hC : ∀ w', (∃ p : Regrown, w' = grow (redrawn wr p.d) p.os) → rowOf w' w1.heap.size = (Fl.mk (newS l k) false 0 0 0 0).cells := fun w' h => (rowOf_kept (n := 46) (by rw [hr]; rfl) (by decide) (quiet_world14 h)).trans hr
          unfold Fl.val Smp.val at cp
          have g1 := fun d os => Calls.regrown_of (cp (grow (redrawn wr d) os))
          clear at_w s0 s1 s2 s3 s4
          go_upto_region 7 with fail
          refine wp_region_below_tail 6 (by kernel_rfl) (by kernel_rfl) ?_
          simp only [List.take_succ_cons, List.take_zero, List.drop_succ_cons, List.drop_zero]
          refine wpQuiet_load_fl (by kernel_rfl) _ rfl w1.heap.size rfl _ hC ?_
          repeat (quiet_step (first | (with_reducible exact g1 _ _)))
          refine wpQuiet_nil ?_
          intro w3 hw
          have hr3 := hC w3 hw
          replace hw := quiet_world14 hw
          have hB3 := hB.trans (hw.mono hB.size)
          have hl3 : w1.heap.size < w3.heap.size := Nat.lt_of_lt_of_le hlt hw.size
          have hsz : (rowOf w3 w1.heap.size).size = 46 := by rw [hr3]; rfl
          have hr4 := rowOf_set (Fl.mk (newS l (k + 1)) false 0 0 0 0).cells hsz (by decide)
          have hB4 := below_row (Fl.mk (newS l (k + 1)) false 0 0 0 0).cells hB3 hwb
          have hl4 : w1.heap.size < (w3.setRow w1.heap.size (Fl.mk (newS l (k + 1)) false 0 0 0 0).cells).heap.size := by simpa [World.setRow] using hl3
          clear k0 k1 k2 k3 k4 g1 cp hC hw
          refine at_store_fl rfl _ _ rfl w1.heap.size rfl _ rfl _ hr3 ?_
          generalize w3.setRow w1.heap.size (Fl.mk (newS l (k + 1)) false 0 0 0 0).cells = w4 at *
          clear hr3 hB3 hsz hl3
          go_wp2_with fail
          go_roundw
          case rel => exact ⟨k + 1, by omega, by go_num, hr4, hB4, hl4⟩
          case measure => simp [intOf]; omega
      · obtain rfl : k = l.length := by omega
        have tF := F0 l.length
        have nF : (Fl.mk (newS l l.length) false 0 0 0 0).l ≠ [] := new_some HZ.out
        have hat0 := new_at l (l.length - 1) 0 (by omega) (by omega)
        rw [if_pos (Nat.zero_le _), show l.length - 1 + 1 = l.length by omega, Nat.sub_zero] at hat0
        have fa0 : (Fl.mk (newS l l.length) false 0 0 0 0).at_ 0 = l.getD (l.length - 1) Smp.zero := hat0
        obtain ⟨e0, e3, eT⟩ := tell_low p (Fl.mk (newS l l.length) false 0 0 0 0) own 9 0 nF
        obtain ⟨d0, d3, eU⟩ := tell_low p (Fl.mk (newS l l.length) false 0 0 0 0) own 9 total nF
        have ca := ftell_any p H.typed _ tF own 9 0 (by omega) (by decide) (by decide)
        have cb := ftell_any p H.typed _ tF own 9 total (by omega) (by decide) (by omega)
        rw [eT, tell_yes nF] at ca
        rw [eU, tell_yes nF] at cb
        generalize dispF p (ordS (Fl.mk (newS l l.length) false 0 0 0 0).l) 9 8 = X at *
        change seenB l (bestS (newS l l.length)).del (bestS (newS l l.length)).at_ (l.length - 8) l.length = true at bs1
        dsimp only at ca cb
        generalize (bestS (newS l l.length)).del = D at *
        generalize (bestS (newS l l.length)).at_ = A at *
        unfold Fl.val Told.val Pm.val at *
        dsimp only at ca cb
        clear eT eU hat0 tF nF F0 HZ
        generalize Fl.mk (newS l l.length) false 0 0 0 0 = F at *
        have hBr := Below.refl wr.heap.size wr
        have BB := Lib.hid hB
        clear hB hB1 hB2 hr2 hl2 hk hk2 hb0
        have hwo : IntKind.i64.wrap own = own := IntWalk.i64_in _ (by omega)
        have hwt : IntKind.i64.wrap total = total := IntWalk.i64_in _ (by omega)
        go_wp2_with fail
        go_cut [9, 10] (fun ps e wx => ∃ b : Nat, ps = .pointer (some ⟨b, 0, none⟩) ∧ e = .bool true ∧ rowOf wx b = #[.int .i64 e0, .int .i64 D, .int .i64 X, .int .i64 e3, .int .i64 A] ∧ Below wr.heap.size wr wx)
        case first =>
          go_region_held3 (fun w' => rowOf w' (w1.heap.size) = F.cells)
            (with_reducible (repeat (first | assumption | (refine rowOf_al ?_) | (refine rowOf_dr ?_) | (refine (rowOf_far _ (by omega)).trans ?_))))
            (first
              | (go_at_call 11; (with_reducible refine (c1 _).mono ?_); rintro e v1 ⟨rfl, g1⟩; have yv1 : w1.heap.size < v1.heap.size := (by refine Nat.lt_of_lt_of_le ?_ g1.size; with_reducible (first | (first | (first | assumption | exact ltn _ _ | exact ltnd _ _ | (refine ltd ?_; assumption)) | (refine lta ?_; first | assumption | exact ltn _ _ | exact ltnd _ _ | (refine ltd ?_; assumption))) | (refine ltd ?_; first | (first | assumption | exact ltn _ _ | exact ltnd _ _ | (refine ltd ?_; assumption)) | (refine lta ?_; first | assumption | exact ltn _ _ | exact ltnd _ _ | (refine ltd ?_; assumption))))); have Bv1 : Below wr.heap.size wr v1 := (by refine belo ?_ g1; with_reducible (repeat (first | assumption | refine Below.drew ?_ | refine al ?_ _))); (try (have sv1_0 : (rowOf v1 wr.heap.size).size = 5 := by (refine szk ?_ (by decide) g1; with_reducible (first | (first | (first | assumption | (refine szn _ _ _ ?_; first | exact lit46 | exact lit5 _ _ _ _ _) | (refine sznd _ _ _ ?_; first | exact lit46 | exact lit5 _ _ _ _ _)) | (refine sza ?_ (by decide); first | assumption | (refine szn _ _ _ ?_; first | exact lit46 | exact lit5 _ _ _ _ _) | (refine sznd _ _ _ ?_; first | exact lit46 | exact lit5 _ _ _ _ _))) | (refine szd ?_; first | (first | assumption | (refine szn _ _ _ ?_; first | exact lit46 | exact lit5 _ _ _ _ _) | (refine sznd _ _ _ ?_; first | exact lit46 | exact lit5 _ _ _ _ _)) | (refine sza ?_ (by decide); first | assumption | (refine szn _ _ _ ?_; first | exact lit46 | exact lit5 _ _ _ _ _) | (refine sznd _ _ _ ?_; first | exact lit46 | exact lit5 _ _ _ _ _))))))); (try (have zv1_0 : wr.heap.size < v1.heap.size := by (refine Nat.lt_of_lt_of_le ?_ g1.size; with_reducible (first | (first | (first | assumption | exact ltn _ _ | exact ltnd _ _ | (refine ltd ?_; assumption)) | (refine lta ?_; first | assumption | exact ltn _ _ | exact ltnd _ _ | (refine ltd ?_; assumption))) | (refine ltd ?_; first | (first | assumption | exact ltn _ _ | exact ltnd _ _ | (refine ltd ?_; assumption)) | (refine lta ?_; first | assumption | exact ltn _ _ | exact ltnd _ _ | (refine ltd ?_; assumption))))))); have rv1 : rowOf v1 w1.heap.size = F.cells := (by refine rowOf_ke ?_ g1; with_reducible (first | (first | assumption | (refine rowOf_al ?_; assumption)) | (refine rowOf_dr ?_; first | assumption | (refine rowOf_al ?_; assumption)))))
              | (go_at_call 12; (with_reducible refine (ca _).mono ?_); rintro e v2 ⟨rfl, g2⟩; have yv2 : w1.heap.size < v2.heap.size := (by refine Nat.lt_of_lt_of_le ?_ g2.size; with_reducible (first | (first | (first | assumption | exact ltn _ _ | exact ltnd _ _ | (refine ltd ?_; assumption)) | (refine lta ?_; first | assumption | exact ltn _ _ | exact ltnd _ _ | (refine ltd ?_; assumption))) | (refine ltd ?_; first | (first | assumption | exact ltn _ _ | exact ltnd _ _ | (refine ltd ?_; assumption)) | (refine lta ?_; first | assumption | exact ltn _ _ | exact ltnd _ _ | (refine ltd ?_; assumption))))); have Bv2 : Below wr.heap.size wr v2 := (by refine belo ?_ g2; with_reducible (repeat (first | assumption | refine Below.drew ?_ | refine al ?_ _))); (try (have sv2_0 : (rowOf v2 wr.heap.size).size = 5 := by (refine szk ?_ (by decide) g2; with_reducible (first | (first | (first | assumption | (refine szn _ _ _ ?_; first | exact lit46 | exact lit5 _ _ _ _ _) | (refine sznd _ _ _ ?_; first | exact lit46 | exact lit5 _ _ _ _ _)) | (refine sza ?_ (by decide); first | assumption | (refine szn _ _ _ ?_; first | exact lit46 | exact lit5 _ _ _ _ _) | (refine sznd _ _ _ ?_; first | exact lit46 | exact lit5 _ _ _ _ _))) | (refine szd ?_; first | (first | assumption | (refine szn _ _ _ ?_; first | exact lit46 | exact lit5 _ _ _ _ _) | (refine sznd _ _ _ ?_; first | exact lit46 | exact lit5 _ _ _ _ _)) | (refine sza ?_ (by decide); first | assumption | (refine szn _ _ _ ?_; first | exact lit46 | exact lit5 _ _ _ _ _) | (refine sznd _ _ _ ?_; first | exact lit46 | exact lit5 _ _ _ _ _))))))); (try (have zv2_0 : wr.heap.size < v2.heap.size := by (refine Nat.lt_of_lt_of_le ?_ g2.size; with_reducible (first | (first | (first | assumption | exact ltn _ _ | exact ltnd _ _ | (refine ltd ?_; assumption)) | (refine lta ?_; first | assumption | exact ltn _ _ | exact ltnd _ _ | (refine ltd ?_; assumption))) | (refine ltd ?_; first | (first | assumption | exact ltn _ _ | exact ltnd _ _ | (refine ltd ?_; assumption)) | (refine lta ?_; first | assumption | exact ltn _ _ | exact ltnd _ _ | (refine ltd ?_; assumption))))))); (try (have sv2_1 : (rowOf v2 v1.heap.size).size = 5 := by (refine szk ?_ (by decide) g2; with_reducible (first | (first | (first | assumption | (refine szn _ _ _ ?_; first | exact lit46 | exact lit5 _ _ _ _ _) | (refine sznd _ _ _ ?_; first | exact lit46 | exact lit5 _ _ _ _ _)) | (refine sza ?_ (by decide); first | assumption | (refine szn _ _ _ ?_; first | exact lit46 | exact lit5 _ _ _ _ _) | (refine sznd _ _ _ ?_; first | exact lit46 | exact lit5 _ _ _ _ _))) | (refine szd ?_; first | (first | assumption | (refine szn _ _ _ ?_; first | exact lit46 | exact lit5 _ _ _ _ _) | (refine sznd _ _ _ ?_; first | exact lit46 | exact lit5 _ _ _ _ _)) | (refine sza ?_ (by decide); first | assumption | (refine szn _ _ _ ?_; first | exact lit46 | exact lit5 _ _ _ _ _) | (refine sznd _ _ _ ?_; first | exact lit46 | exact lit5 _ _ _ _ _))))))); (try (have zv2_1 : v1.heap.size < v2.heap.size := by (refine Nat.lt_of_lt_of_le ?_ g2.size; with_reducible (first | (first | (first | assumption | exact ltn _ _ | exact ltnd _ _ | (refine ltd ?_; assumption)) | (refine lta ?_; first | assumption | exact ltn _ _ | exact ltnd _ _ | (refine ltd ?_; assumption))) | (refine ltd ?_; first | (first | assumption | exact ltn _ _ | exact ltnd _ _ | (refine ltd ?_; assumption)) | (refine lta ?_; first | assumption | exact ltn _ _ | exact ltnd _ _ | (refine ltd ?_; assumption))))))); have rv2 : rowOf v2 w1.heap.size = F.cells := (by refine rowOf_ke ?_ g2; with_reducible (first | (first | assumption | (refine rowOf_al ?_; assumption)) | (refine rowOf_dr ?_; first | assumption | (refine rowOf_al ?_; assumption))))))
          all_goals (go_wp2_with fail; go_meet)
          all_goals (refine ⟨_, rfl, rfl, end_one _ ?_ ?_ ?_⟩)
          all_goals (first | (with_reducible (first | (first | (first | assumption | (refine szn _ _ _ ?_; first | exact lit46 | exact lit5 _ _ _ _ _) | (refine sznd _ _ _ ?_; first | exact lit46 | exact lit5 _ _ _ _ _)) | (refine sza ?_ (by decide); first | assumption | (refine szn _ _ _ ?_; first | exact lit46 | exact lit5 _ _ _ _ _) | (refine sznd _ _ _ ?_; first | exact lit46 | exact lit5 _ _ _ _ _))) | (refine szd ?_; first | (first | assumption | (refine szn _ _ _ ?_; first | exact lit46 | exact lit5 _ _ _ _ _) | (refine sznd _ _ _ ?_; first | exact lit46 | exact lit5 _ _ _ _ _)) | (refine sza ?_ (by decide); first | assumption | (refine szn _ _ _ ?_; first | exact lit46 | exact lit5 _ _ _ _ _) | (refine sznd _ _ _ ?_; first | exact lit46 | exact lit5 _ _ _ _ _))))) | (with_reducible (first | assumption | (refine al ?_ _; assumption))) | (have h1 := Bv1.size; have h2 := Bv2.size; omega))
        case rest =>
          obtain ⟨b9, rfl, rfl, hv9, hb9⟩ := hcut
          have hr9 := rowOf_ke hr hb9
          have hl9 : w1.heap.size < wc.heap.size := Nat.lt_of_lt_of_le hlt hb9.size
          have lb9 : b9 < wc.heap.size := Nat.lt_of_not_le fun h => by
            have e : rowOf wc b9 = #[] := by unfold rowOf; rw [Array.getElem?_eq_none h]
            rw [e] at hv9
            cases hv9
          have hBr9 := Below.refl wc.heap.size wc
          have KK := Lib.hid (And.intro hv9 (And.intro hb9 lb9))
          clear hv9 hb9 lb9 hr hlt hBr ca
          obtain ⟨wq, rfl⟩ : ∃ wq : World, wq = wc := ⟨_, rfl⟩
          go_wp2_with fail
          go_cut [11, 12] (fun ps e wx => ∃ b : Nat, ps = .pointer (some ⟨b, 0, none⟩) ∧ e = .bool true ∧ rowOf wx b = #[.int .i64 d0, .int .i64 D, .int .i64 X, .int .i64 d3, .int .i64 A] ∧ Below wq.heap.size wq wx)
          case first =>
            go_region_held3 (fun w' => rowOf w' (w1.heap.size) = F.cells)
              (with_reducible (repeat (first | assumption | (refine rowOf_al ?_) | (refine rowOf_dr ?_) | (refine (rowOf_far _ (by omega)).trans ?_))))
              (first
                | (go_at_call 11; (with_reducible refine (c1 _).mono ?_); rintro e v1 ⟨rfl, g1⟩; have yv1 : w1.heap.size < v1.heap.size := (by refine Nat.lt_of_lt_of_le ?_ g1.size; with_reducible (first | (first | (first | assumption | exact ltn _ _ | exact ltnd _ _ | (refine ltd ?_; assumption)) | (refine lta ?_; first | assumption | exact ltn _ _ | exact ltnd _ _ | (refine ltd ?_; assumption))) | (refine ltd ?_; first | (first | assumption | exact ltn _ _ | exact ltnd _ _ | (refine ltd ?_; assumption)) | (refine lta ?_; first | assumption | exact ltn _ _ | exact ltnd _ _ | (refine ltd ?_; assumption))))); have Bv1 : Below wq.heap.size wq v1 := (by refine belo ?_ g1; with_reducible (repeat (first | assumption | refine Below.drew ?_ | refine al ?_ _))); (try (have sv1_0 : (rowOf v1 wq.heap.size).size = 5 := by (refine szk ?_ (by decide) g1; with_reducible (first | (first | (first | assumption | (refine szn _ _ _ ?_; first | exact lit46 | exact lit5 _ _ _ _ _) | (refine sznd _ _ _ ?_; first | exact lit46 | exact lit5 _ _ _ _ _)) | (refine sza ?_ (by decide); first | assumption | (refine szn _ _ _ ?_; first | exact lit46 | exact lit5 _ _ _ _ _) | (refine sznd _ _ _ ?_; first | exact lit46 | exact lit5 _ _ _ _ _))) | (refine szd ?_; first | (first | assumption | (refine szn _ _ _ ?_; first | exact lit46 | exact lit5 _ _ _ _ _) | (refine sznd _ _ _ ?_; first | exact lit46 | exact lit5 _ _ _ _ _)) | (refine sza ?_ (by decide); first | assumption | (refine szn _ _ _ ?_; first | exact lit46 | exact lit5 _ _ _ _ _) | (refine sznd _ _ _ ?_; first | exact lit46 | exact lit5 _ _ _ _ _))))))); (try (have zv1_0 : wq.heap.size < v1.heap.size := by (refine Nat.lt_of_lt_of_le ?_ g1.size; with_reducible (first | (first | (first | assumption | exact ltn _ _ | exact ltnd _ _ | (refine ltd ?_; assumption)) | (refine lta ?_; first | assumption | exact ltn _ _ | exact ltnd _ _ | (refine ltd ?_; assumption))) | (refine ltd ?_; first | (first | assumption | exact ltn _ _ | exact ltnd _ _ | (refine ltd ?_; assumption)) | (refine lta ?_; first | assumption | exact ltn _ _ | exact ltnd _ _ | (refine ltd ?_; assumption))))))); have rv1 : rowOf v1 w1.heap.size = F.cells := (by refine rowOf_ke ?_ g1; with_reducible (first | (first | assumption | (refine rowOf_al ?_; assumption)) | (refine rowOf_dr ?_; first | assumption | (refine rowOf_al ?_; assumption)))))
                | (go_at_call 12; (with_reducible refine (cb _).mono ?_); rintro e v2 ⟨rfl, g2⟩; have yv2 : w1.heap.size < v2.heap.size := (by refine Nat.lt_of_lt_of_le ?_ g2.size; with_reducible (first | (first | (first | assumption | exact ltn _ _ | exact ltnd _ _ | (refine ltd ?_; assumption)) | (refine lta ?_; first | assumption | exact ltn _ _ | exact ltnd _ _ | (refine ltd ?_; assumption))) | (refine ltd ?_; first | (first | assumption | exact ltn _ _ | exact ltnd _ _ | (refine ltd ?_; assumption)) | (refine lta ?_; first | assumption | exact ltn _ _ | exact ltnd _ _ | (refine ltd ?_; assumption))))); have Bv2 : Below wq.heap.size wq v2 := (by refine belo ?_ g2; with_reducible (repeat (first | assumption | refine Below.drew ?_ | refine al ?_ _))); (try (have sv2_0 : (rowOf v2 wq.heap.size).size = 5 := by (refine szk ?_ (by decide) g2; with_reducible (first | (first | (first | assumption | (refine szn _ _ _ ?_; first | exact lit46 | exact lit5 _ _ _ _ _) | (refine sznd _ _ _ ?_; first | exact lit46 | exact lit5 _ _ _ _ _)) | (refine sza ?_ (by decide); first | assumption | (refine szn _ _ _ ?_; first | exact lit46 | exact lit5 _ _ _ _ _) | (refine sznd _ _ _ ?_; first | exact lit46 | exact lit5 _ _ _ _ _))) | (refine szd ?_; first | (first | assumption | (refine szn _ _ _ ?_; first | exact lit46 | exact lit5 _ _ _ _ _) | (refine sznd _ _ _ ?_; first | exact lit46 | exact lit5 _ _ _ _ _)) | (refine sza ?_ (by decide); first | assumption | (refine szn _ _ _ ?_; first | exact lit46 | exact lit5 _ _ _ _ _) | (refine sznd _ _ _ ?_; first | exact lit46 | exact lit5 _ _ _ _ _))))))); (try (have zv2_0 : wq.heap.size < v2.heap.size := by (refine Nat.lt_of_lt_of_le ?_ g2.size; with_reducible (first | (first | (first | assumption | exact ltn _ _ | exact ltnd _ _ | (refine ltd ?_; assumption)) | (refine lta ?_; first | assumption | exact ltn _ _ | exact ltnd _ _ | (refine ltd ?_; assumption))) | (refine ltd ?_; first | (first | assumption | exact ltn _ _ | exact ltnd _ _ | (refine ltd ?_; assumption)) | (refine lta ?_; first | assumption | exact ltn _ _ | exact ltnd _ _ | (refine ltd ?_; assumption))))))); (try (have sv2_1 : (rowOf v2 v1.heap.size).size = 5 := by (refine szk ?_ (by decide) g2; with_reducible (first | (first | (first | assumption | (refine szn _ _ _ ?_; first | exact lit46 | exact lit5 _ _ _ _ _) | (refine sznd _ _ _ ?_; first | exact lit46 | exact lit5 _ _ _ _ _)) | (refine sza ?_ (by decide); first | assumption | (refine szn _ _ _ ?_; first | exact lit46 | exact lit5 _ _ _ _ _) | (refine sznd _ _ _ ?_; first | exact lit46 | exact lit5 _ _ _ _ _))) | (refine szd ?_; first | (first | assumption | (refine szn _ _ _ ?_; first | exact lit46 | exact lit5 _ _ _ _ _) | (refine sznd _ _ _ ?_; first | exact lit46 | exact lit5 _ _ _ _ _)) | (refine sza ?_ (by decide); first | assumption | (refine szn _ _ _ ?_; first | exact lit46 | exact lit5 _ _ _ _ _) | (refine sznd _ _ _ ?_; first | exact lit46 | exact lit5 _ _ _ _ _))))))); (try (have zv2_1 : v1.heap.size < v2.heap.size := by (refine Nat.lt_of_lt_of_le ?_ g2.size; with_reducible (first | (first | (first | assumption | exact ltn _ _ | exact ltnd _ _ | (refine ltd ?_; assumption)) | (refine lta ?_; first | assumption | exact ltn _ _ | exact ltnd _ _ | (refine ltd ?_; assumption))) | (refine ltd ?_; first | (first | assumption | exact ltn _ _ | exact ltnd _ _ | (refine ltd ?_; assumption)) | (refine lta ?_; first | assumption | exact ltn _ _ | exact ltnd _ _ | (refine ltd ?_; assumption))))))); have rv2 : rowOf v2 w1.heap.size = F.cells := (by refine rowOf_ke ?_ g2; with_reducible (first | (first | assumption | (refine rowOf_al ?_; assumption)) | (refine rowOf_dr ?_; first | assumption | (refine rowOf_al ?_; assumption))))))
            all_goals (go_wp2_with fail; go_meet)
            all_goals (refine ⟨_, rfl, rfl, end_one _ ?_ ?_ ?_⟩)
            all_goals (first | (with_reducible (first | (first | (first | assumption | (refine szn _ _ _ ?_; first | exact lit46 | exact lit5 _ _ _ _ _) | (refine sznd _ _ _ ?_; first | exact lit46 | exact lit5 _ _ _ _ _)) | (refine sza ?_ (by decide); first | assumption | (refine szn _ _ _ ?_; first | exact lit46 | exact lit5 _ _ _ _ _) | (refine sznd _ _ _ ?_; first | exact lit46 | exact lit5 _ _ _ _ _))) | (refine szd ?_; first | (first | assumption | (refine szn _ _ _ ?_; first | exact lit46 | exact lit5 _ _ _ _ _) | (refine sznd _ _ _ ?_; first | exact lit46 | exact lit5 _ _ _ _ _)) | (refine sza ?_ (by decide); first | assumption | (refine szn _ _ _ ?_; first | exact lit46 | exact lit5 _ _ _ _ _) | (refine sznd _ _ _ ?_; first | exact lit46 | exact lit5 _ _ _ _ _))))) | (with_reducible (first | assumption | (refine al ?_ _; assumption))) | (have h1 := Bv1.size; have h2 := Bv2.size; omega))
          case rest =>
            obtain ⟨b11, rfl, rfl, hv11, hb11⟩ := hcut
            have hr12 := rowOf_ke hr9 hb11
            have hv12 := row5_kept KK.out.1 hb11
            have hB12 := belo (belo BB.out KK.out.2.1) hb11
            have s1 := (cell_of hv12 (by simp) 1).trans (show _ = some (Value.int .i64 D) from rfl)
            have s2 := (cell_of hv12 (by simp) 2).trans (show _ = some (Value.int .i64 X) from rfl)
            have s4 := (cell_of hv12 (by simp) 4).trans (show _ = some (Value.int .i64 A) from rfl)
            have q1 := (cell_of hv11 (by simp) 1).trans (show _ = some (Value.int .i64 D) from rfl)
            have q2 := (cell_of hv11 (by simp) 2).trans (show _ = some (Value.int .i64 X) from rfl)
            have q4 := (cell_of hv11 (by simp) 4).trans (show _ = some (Value.int .i64 A) from rfl)
            have hmax := fun ts t => run_maxL l.length ts t
            obtain ⟨a, ha⟩ : ∃ a, l.length - 8 = a := ⟨_, rfl⟩
            rw [ha] at hmax bs1 bs2
            have al : a ≤ l.length := by omega
            have sn := seen_none l D A a a (Nat.le_refl _)
            have SN := Lib.hid sn
            have B1 := Lib.hid bs1
            have FA := Lib.hid fa0
            have I0 := Lib.hid (And.intro hv12 (And.intro hr12 hB12))
            clear sn bs1 ha fa0 hv12 hr12 hB12 hv11 hb11 KK BB hr9 hl9 hBr9 cb hwo hwt c1
            go_wp2_with fail
            clear s1 s2 s4 q1 q2 q4 hmax
            go_loopw [13, 14] (fun sb i wr => ∃ m : Nat, a ≤ m ∧ m ≤ l.length ∧ sb = .bool (seenB l D A a m) ∧ i = .int .i64 m ∧ rowOf wr b9 = #[.int .i64 e0, .int .i64 D, .int .i64 X, .int .i64 e3, .int .i64 A] ∧ rowOf wr w1.heap.size = F.cells ∧ Below w.heap.size w wr) (fun _ i _ => l.length - (intOf i).toNat)
            case atStart => exact ⟨a, Nat.le_refl _, al, by rw [SN.out], rfl, I0.out.1, I0.out.2.1, I0.out.2.2⟩
            case round =>
              obtain ⟨m, hm1, hm2, rfl, rfl, hv13, hr13, hB13⟩ := hrel
              obtain ⟨wz, rfl⟩ : ∃ wz : World, wz = wr := ⟨_, rfl⟩
              rcases hv with ⟨_, _, _, _, rfl⟩ | ⟨sb, off, cap, hsv, hsb, hcell⟩
              · simp at hpos
              cases hsv
              by_cases hlt : m < l.length
              · obtain ⟨x, hx⟩ : ∃ x, l[m]? = some x := ⟨_, List.getElem?_eq_getElem hlt⟩
                have at_w : ∀ j u, (smE x)[j]? = some u → wz.cell? ⟨sb, off + m * 5 + j, none⟩ = some u := fun j u hu => by rw [hB13.cell (show sb < w.heap.size from hsb)]; exact hcell m x hx j u hu
                have y1 := at_w 1 _ rfl
                have y3 := at_w 3 _ rfl
                have s1 := (cell_of hv13 (by simp) 1).trans (show _ = some (Value.int .i64 D) from rfl)
                have s4 := (cell_of hv13 (by simp) 4).trans (show _ = some (Value.int .i64 A) from rfl)
                have nd := bs2 m x hm1 hx
                have nx := seen_next l D A a m hm1 hx
                have NX := Lib.hid nx
                have II := Lib.hid (And.intro hv13 (And.intro hr13 hB13))
                clear at_w nx hv13 hr13 hB13 hcell hx
                have ndb : decide (x.del < D) = false := by simpa using nd
                by_cases hs : seenB l D A a m = true
                · have hsn : seenB l D A a (m + 1) = true := by rw [NX.out, hs]; rfl
                  have HS := Lib.hid hsn
                  clear hsn
                  rw [hs]
                  clear hs
                  go_wp2_with fail
                  go_quiet (fail)
                  go_wp2_with fail
                  go_quiet (fail)
                  go_wp2_with fail
                  go_roundw
                  case rel => exact ⟨m + 1, by omega, by omega, by rw [HS.out], by go_num, II.out.1, II.out.2.1, below_drewN II.out.2.2 _⟩
                  case measure => simp [intOf]; omega
                · have hsf : seenB l D A a m = false := by simpa using hs
                  have hsn : seenB l D A a (m + 1) = ((x.del == D) && (x.at_ == A)) := by rw [NX.out, hsf, Bool.false_or]
                  have HS := Lib.hid hsn
                  clear hsn hs
                  rw [hsf]
                  clear hsf
                  by_cases e1 : x.del = D
                  · have f1 : (x.del == D) = true := by simpa using e1
                    have F1 := Lib.hid f1
                    obtain ⟨c, hc⟩ : ∃ c, (x.at_ == A) = c := ⟨_, rfl⟩
                    have F2 := Lib.hid hc
                    clear e1 nd
                    go_wp2_with fail
                    go_quiet (fail)
                    go_wp2_with fail
                    go_quiet (fail)
                    go_wp2_with fail
                    go_roundw
                    case rel => exact ⟨m + 1, by omega, by omega, by rw [HS.out, F1.out, F2.out]; rfl, by go_num, II.out.1, II.out.2.1, below_drewN II.out.2.2 _⟩
                    case measure => simp [intOf]; omega
                  · have f1 : (x.del == D) = false := by rw [beq_eq_false_iff_ne]; exact e1
                    have F1 := Lib.hid f1
                    clear e1 nd
                    go_wp2_with fail
                    go_quiet (fail)
                    go_wp2_with fail
                    go_quiet (fail)
                    go_wp2_with fail
                    go_roundw
                    case rel => exact ⟨m + 1, by omega, by omega, by rw [HS.out, F1.out]; rfl, by go_num, II.out.1, II.out.2.1, below_drewN II.out.2.2 _⟩
                    case measure => simp [intOf]; omega
              · obtain rfl : m = l.length := by omega
                obtain ⟨y, hy⟩ : ∃ y, l[l.length - 1]? = some y := ⟨_, List.getElem?_eq_getElem (by omega)⟩
                have fa := FA.out
                rw [List.getD_eq_getElem?_getD, hy] at fa
                change F.at_ 0 = y at fa
                have at_w : ∀ j u, (smE y)[j]? = some u → wz.cell? ⟨sb, off + (l.length - 1) * 5 + j, none⟩ = some u := fun j u hu => by rw [hB13.cell (show sb < w.heap.size from hsb)]; exact hcell (l.length - 1) y hy j u hu
                have y0 := at_w 0 _ rfl
                have y1 := at_w 1 _ rfl
                have y2 := at_w 2 _ rfl
                have y3 := at_w 3 _ rfl
                have y4 := at_w 4 _ rfl
                rw [Nat.add_zero] at y0
                obtain ⟨d0', d1', d2', d3', d4'⟩ := fl_cell F 0 (by decide)
                have rc := fun j => row_cell (w := wz) (b := w1.heap.size) (n := 46) (by rw [hr13]; rfl) (by decide) j
                rw [hr13] at rc
                have p0 := (rc 0).trans d0'
                have p1 := (rc 1).trans d1'
                have p2 := (rc 2).trans d2'
                have p3 := (rc 3).trans d3'
                have p4 := (rc 4).trans d4'
                rw [fa] at p0 p1 p2 p3 p4
                have htn : ((l.length : Int) - 1).toNat = l.length - 1 := by omega
                have ee := smp_eql y.off y.del y.disp y.at_ y.total
                have HB := Lib.hid hB13
                clear at_w rc d0' d1' d2' d3' d4' hv13 hr13 hB13 hcell hy fa hm1 hm2 bs2
                rw [B1.out]
                go_wp2_with fail
                go_quiet (fail)
                go_wp2_with fail
                go_ret
                exact ⟨rfl, below_drewN HB.out _⟩
set_option maxRecDepth 100000 in
theorem lifted (os : Os) (started : os.Started) (H : Type) (enc : TypeId × Value → H) :
    ReturnsInHanded {} Tryz.checked os 4 .any (Rows.filterLeastSpec.pre6 enc Tryz.prog Tryz.f4 Rows.filterLeastRow.domain false) (Rows.filterLeastSpec.post enc Tryz.prog Tryz.f4 false true false false) := by
  refine returnsInHanded_of_change (C := Tryz.checked) own started (by kernel_rfl) Tryz.func4
    (ChangeSpec.witness6 (enc := enc) (C := Tryz.checked) false ⟨#[], #[.slice none 0 0, .int .i8 0, .int .i32 0], []⟩ 8 (by kernel_rfl) (by kernel_rfl) (by kernel_rfl) (by kernel_rfl)) ?_
  intro W base args ds gs before hval0 hW hcnd _
  have hval : ∀ (j : Nat) t v, Tryz.f4.params[j]? = some t → args[j]? = some v → Value.okWide Tryz.prog W .any base t v := hval0
  have hW' := hW
  obtain ⟨p, q, hA0, hV, rfl, hfz, hnd⟩ := hW
  have hA : DataW.TrodAll enc Tryz.prog W 0 (fun _ => true) true Tryz.f4.params.toList args.toList ds p := hA0
  rw [Tryz.params4] at hA hval
  obtain ⟨v0, vs0, d0, ds0, p0, q0, hargs, rfl, rfl, h0, r0⟩ := trodAll_cons hA
  obtain ⟨v1, vs1, d1, ds1, p1, q1, rfl, rfl, rfl, h1, r1⟩ := trodAll_cons r0
  obtain ⟨v2, vs2, d2, ds2, p2, q2, rfl, rfl, rfl, h2, r2⟩ := trodAll_cons r1
  obtain ⟨rfl, rfl, rfl⟩ := trodAll_nil r2
  obtain rfl : args = #[v0, v1, v2] := by cases args; simp_all
  obtain ⟨rfl, rfl⟩ := trodVars_none hV
  have k0 := h0
  have lt0 : ∀ x ∈ p0, x.block < W.heap.size := by obtain ⟨m, hm⟩ := k0; exact DataW.trod_lt m _ _ _ hm
  obtain ⟨a0, len0, cap0, rfl⟩ := okWide_slice Tryz.underlying22 (hval 0 22 v0 rfl rfl)
  obtain ⟨z0, w0a, w0b, w0c⟩ : ∃ l : List Smp, SlAt (fun b => b < W.heap.size) 5 smE W (.slice a0 len0 cap0) l ∧ (∀ f ∈ l, Smp.Typed f) ∧ l.length ≤ maxLen := by
    obtain ⟨fuel, hf⟩ := h0
    obtain ⟨v, l, hcs, h1, h2, h3⟩ := open_smps hf
    simp [Value.cells] at hcs
    subst hcs
    exact ⟨l, h1, h2, h3⟩
  obtain ⟨a1, rfl, rfl, rfl, w1⟩ := open_int Tryz.underlying41 (hval 1 41 v1 rfl rfl) h1
  obtain ⟨a2, rfl, rfl, rfl, w2⟩ := open_int Tryz.underlying21 (hval 2 21 v2 rfl rfl) h2
  clear hA0 hval0
  refine (walk (.slice a0 len0 cap0) z0 a1 a2 W w0a w0b w0c w1 w2).mono fun e W' ⟨he, bel⟩ => ?_
  subst he
  exact ⟨_, rfl, _, _, _, [], _, [], hW', trodAll_mk1 (shut_bool Tryz.underlying4 _), (trodAll_cons_mk (Below.trod laidOut (by kernel_rfl) (of_decide_eq_true (by kernel_rfl)) k0 bel lt0) (trodAll_cons_mk (shut_int Tryz.underlying41 w1) (trodAll_cons_mk (shut_int Tryz.underlying21 w2) trodAll_mk0))), rfl, bel.frame _, fun h => by cases h⟩

theorem over : Rows.filterLeastRow.holds Tryz.pinned (OpenSpec.ofChange Rows.filterLeastSpec) :=
  OpenClaim.holds_of_wide 4 Tryz.f4 rfl rfl rfl rfl rfl rfl rfl ⟨rfl, rfl, rfl, rfl, rfl⟩ rfl rfl rfl rfl rfl (by kernel_rfl) Tryz.func4 (by kernel_rfl)
    (of_decide_eq_true (by kernel_rfl)) (by unfold Func.isWrapper; first | (rw [if_pos (by decide +kernel)]; kernel_rfl) | (rw [if_neg (by decide +kernel)]; exact ⟨rfl, rfl⟩))
    (fun os started H enc _ => lifted os started H enc)

theorem proved : Rows.FilterLeastSaid := over
end Go.Proofs.YtiadaaihlimloaaGreat.FilterLeast
