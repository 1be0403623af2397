/- FilterEight: whatever samples come, a filter has the eight newest ones, each in its place. No condition. -/
import Derived.Test.YtiadaaihlimloaaGreatFrT
import Derived.Test.YtiadaaihlimloaaGreatQtB
import Derived.BigQuiet
import Derived.WalkKit
import Derived.WalkSpells
import Derived.WalkLawsBesides
import Derived.Lib.Hide
import Derived.Handy
import Derived.ProofKit
import Derived.OpenShut
import Derived.ShutString
import Derived.ChangeOld
import Derived.Below
namespace Go.Proofs.YtiadaaihlimloaaGreat.FilterEight
open Go.Proofs.YtiadaaihlimloaaGreat.W
open Go.ChangeShapes Go.WideShapes Go.ChangeAt Go.RowKit
open Go.ChangeMaps (open_string shut_string)
set_option linter.unusedVariables false
theorem own : ownKnob Tryz.prog.godebug = none := by kernel_rfl
theorem laidOut : laidOutB Tryz.prog = true := by kernel_rfl
open Go.Sort
set_option linter.unusedSimpArgs false
theorem quiet_world14 {v v' : World} (h : ∃ p : Regrown, v' = grow (redrawn v p.d) p.os) : Below v.heap.size v v' := by
  obtain ⟨p, rfl⟩ := h
  exact below_regrown v p.d p.os
theorem smp_neq (a b c d e : Int) (w : World) : (binOp .neq 26 (.agg #[.int .i64 a, .int .i64 b, .int .i64 c, .int .i64 d, .int .i64 e]) (.agg #[.int .i64 a, .int .i64 b, .int .i64 c, .int .i64 d, .int .i64 e])).run Tryz.prog w = .ok (.bool false) w := by
  simp [go_sem]
set_option maxRecDepth 100000 in
set_option maxHeartbeats 25600000 in
theorem walk (v : Value) (l : List Smp) (had : Bool) (used : Int) (w : World) (hv : SlAt (fun b => b < w.heap.size) 5 smE w v l) (tl : ∀ s ∈ l, s.Typed) (hl : l.length ≤ maxLen) (wu : (Lit.int .i64 used).wf = true) :
    Calls Tryz.prog 6 #[v, .bool had, .int .i64 used] w fun e w' => e = .returned (.bool true) ∧ Below w.heap.size w w' := by
  have hm : l.length ≤ 9223372036854775807 := by unfold maxLen at hl; omega
  have u0 : -9223372036854775808 ≤ used ∧ used ≤ 9223372036854775807 := by have := bounds_i64 wu; omega
  clear wu hl
  have c4 := shown14_any
  obtain ⟨sx, sc, rfl⟩ := hv.slice
  by_cases h200 : 200 < l.length
  · go_enter Tryz.func6, Tryz.ntmps6
    go_wp2_with fail
    (with_reducible refine (c4 _).mono ?_)
    rintro e w1 ⟨rfl, hB1⟩
    go_wp2_with fail
    go_ret
    exact ⟨rfl, hB1⟩
  · have F0 : ∀ i, (Fl.mk (newS l i) had used 0 0 0).Typed := fun i => ⟨new_typed tl i, by show (newS l i).length ≤ 8; unfold newS; rw [List.length_take]; omega, u0, by dsimp only; decide, by dsimp only; decide, by dsimp only; decide⟩
    go_enter Tryz.func6, Tryz.ntmps6
    go_wp2_with fail
    (with_reducible refine (c4 _).mono ?_)
    rintro e w1 ⟨rfl, hB1⟩
    clear c4
    go_wp2_with (first | (refine at_alloc_fl rfl rfl ?_) | (refine at_store_fl rfl _ _ rfl _ rfl ⟨[], had, used, 0, 0, 0⟩ rfl _ (rowOf_new _ _ _) ?_; rw [setRow_new]))
    have hr2 := rowOf_new w1 (Fl.mk [] had used 0 0 0).cells 29
    have hB2 := hB1.alloc hB1.size (.cells (Fl.mk [] had used 0 0 0).cells 29)
    have hwb := hB1.size
    generalize w1.alloc (.cells (Fl.mk [] had used 0 0 0).cells 29) = w2 at *
    generalize w1.heap.size = bf at *
    go_loopw [8] (fun i wr => ∃ k : Nat, k ≤ l.length ∧ i = .int .i64 k ∧ rowOf wr bf = (Fl.mk (newS l k) had used 0 0 0).cells ∧ Below w.heap.size w wr) (fun i _ => l.length - (intOf i).toNat)
    case atStart => exact ⟨0, Nat.zero_le _, rfl, by rw [new_zero]; exact hr2, hB2⟩
    case round =>
      obtain ⟨k, hk, rfl, hr, hB⟩ := hrel
      by_cases hk2 : k < l.length
      · obtain ⟨x, hx⟩ : ∃ x, l[k]? = some x := ⟨_, List.getElem?_eq_getElem hk2⟩
        have tx : x.Typed := tl x (List.mem_of_getElem? hx)
        have nx := new_next l k x hx
        have cp := fput_any _ (F0 k) x tx
        have ep : putF ⟨newS l k, had, used, 0, 0, 0⟩ x = ⟨newS l (k + 1), had, used, 0, 0, 0⟩ := by unfold putF; rw [nx]
        rw [ep] at cp
        clear ep nx
        rcases hv with ⟨_, _, _, _, rfl⟩ | ⟨sb, off, cap, hsv, hsb, hcell⟩
        · simp at hk2
        · cases hsv
          have at_w : ∀ j u, (smE x)[j]? = some u → wr.cell? ⟨sb, off + k * 5 + j, none⟩ = some u := fun j u hu => by rw [hB.cell (show sb < w.heap.size from hsb)]; exact hcell k x hx j u hu
          have s0 := at_w 0 _ rfl
          have s1 := at_w 1 _ rfl
          have s2 := at_w 2 _ rfl
          have s3 := at_w 3 _ rfl
          have s4 := at_w 4 _ rfl
          rw [Nat.add_zero] at s0
          have k0 := cell_regrown s0
          have k1 := cell_regrown s1
          have k2 := cell_regrown s2
          have k3 := cell_regrown s3
          have k4 := cell_regrown s4
          have hC : ∀ w', (∃ p : Regrown, w' = grow (redrawn wr p.d) p.os) → rowOf w' bf = (Fl.mk (newS l k) had used 0 0 0).cells := fun w' h => (rowOf_kept (n := 46) (by rw [hr]; rfl) (by decide) (quiet_world14 h)).trans hr
          unfold Fl.val Smp.val at cp
          have g1 := fun d os => Calls.regrown_of (cp (grow (redrawn wr d) os))
          clear at_w s0 s1 s2 s3 s4
          go_upto_region 7 with fail
          refine wp_region_below_tail 6 (by kernel_rfl) (by kernel_rfl) ?_
          simp only [List.take_succ_cons, List.take_zero, List.drop_succ_cons, List.drop_zero]
          refine wpQuiet_load_fl (by kernel_rfl) _ rfl bf rfl _ hC ?_
          repeat (quiet_step (first | (with_reducible exact g1 _ _)))
          refine wpQuiet_nil ?_
          intro w3 hw
          have hr3 := hC w3 hw
          replace hw := quiet_world14 hw
          have hB3 := hB.trans (hw.mono hB.size)
          have hsz : (rowOf w3 bf).size = 46 := by rw [hr3]; rfl
          have hr4 := rowOf_set (Fl.mk (newS l (k + 1)) had used 0 0 0).cells hsz (by decide)
          have hB4 := below_setRow hB3 hwb (Fl.mk (newS l (k + 1)) had used 0 0 0).cells
          clear k0 k1 k2 k3 k4 g1 cp hC hw
          refine at_store_fl rfl _ _ rfl bf rfl _ rfl _ hr3 ?_
          generalize w3.setRow bf (Fl.mk (newS l (k + 1)) had used 0 0 0).cells = w4 at *
          clear hr3 hB3 hsz
          go_wp2_with fail
          go_loopw [9] (fun j wq => ∃ m : Nat, m ≤ 8 ∧ j = .int .i64 m ∧ rowOf wq bf = (Fl.mk (newS l (k + 1)) had used 0 0 0).cells ∧ Below w.heap.size w wq) (fun j _ => 8 - (intOf j).toNat)
          case atStart => exact ⟨0, Nat.zero_le _, rfl, hr4, hB4⟩
          case round =>
            obtain ⟨m, hm8', rfl, hr5, hB5⟩ := hrel
            rename World => w5
            by_cases hm8 : m < 8
            · have hya0 := new_at l k m hk2 hm8
              by_cases hmk : m ≤ k
              · rw [if_pos hmk] at hya0
                obtain ⟨y, hy⟩ : ∃ y, l[k - m]? = some y := ⟨_, List.getElem?_eq_getElem (by omega)⟩
                have hya : (Fl.mk (newS l (k + 1)) had used 0 0 0).at_ m = y := by
                  show (newS l (k + 1)).getD m Smp.zero = y
                  rw [hya0, List.getD_eq_getElem?_getD, hy]
                  rfl
                have at_w : ∀ j u, (smE y)[j]? = some u → (w5.alloc (.cells #[.int .i64 0, .int .i64 0, .int .i64 0, .int .i64 0, .int .i64 0] 26)).cell? ⟨sb, off + (k - m) * 5 + j, none⟩ = some u := fun j u hu => by rw [(hB5.alloc hB5.size _).cell (show sb < w.heap.size from hsb)]; exact hcell (k - m) y hy j u hu
                have s0 := at_w 0 _ rfl
                have s1 := at_w 1 _ rfl
                have s2 := at_w 2 _ rfl
                have s3 := at_w 3 _ rfl
                have s4 := at_w 4 _ rfl
                rw [Nat.add_zero] at s0
                have htn : ((k : Int) - (m : Int)).toNat = k - m := by omega
                clear at_w hya0
                have hh6 := heap_alloc_new w5 (.cells #[.int .i64 y.off, .int .i64 y.del, .int .i64 y.disp, .int .i64 y.at_, .int .i64 y.total] 26)
                have hr6 := rowOf_kept (n := 46) (by rw [hr5]; rfl) (by decide) ((Below.refl w5.heap.size w5).alloc (Nat.le_refl _) (.cells #[.int .i64 y.off, .int .i64 y.del, .int .i64 y.disp, .int .i64 y.at_, .int .i64 y.total] 26))
                have hB6 := hB5.alloc hB5.size (.cells #[.int .i64 y.off, .int .i64 y.del, .int .i64 y.disp, .int .i64 y.at_, .int .i64 y.total] 26)
                rw [hr5] at hr6
                go_upto_region 14 with fail
                generalize w5.alloc (.cells #[.int .i64 y.off, .int .i64 y.del, .int .i64 y.disp, .int .i64 y.at_, .int .i64 y.total] 26) = w6 at *
                generalize w5.heap.size = bw at *
                obtain ⟨q0, q1, q2, q3, q4⟩ := five_in hh6
                have rc := fun j => row_cell (w := w6) (b := bf) (n := 46) (by rw [hr6]; rfl) (by decide) j
                rw [hr6] at rc
                obtain ⟨d0, d1, d2, d3, d4⟩ := fl_cell (Fl.mk (newS l (k + 1)) had used 0 0 0) m hm8
                have p0 := (rc (5 * m)).trans d0
                have p1 := (rc (5 * m + 1)).trans d1
                have p2 := (rc (5 * m + 2)).trans d2
                have p3 := (rc (5 * m + 3)).trans d3
                have p4 := (rc (5 * m + 4)).trans d4
                rw [hya, Nat.mul_comm] at p0 p1 p2 p3 p4
                clear rc d0 d1 d2 d3 d4 hh6
                have ne := smp_neq y.off y.del y.disp y.at_ y.total
                have HR6 := Lib.hid hr6
                clear hr6
                go_quiet (fail)
                go_wp2_with fail
                go_roundw
                case rel => exact ⟨m + 1, by omega, by go_num, HR6.out, below_drewN hB6 _⟩
                case measure => simp [intOf]; omega
              · rw [if_neg hmk] at hya0
                have hya : (Fl.mk (newS l (k + 1)) had used 0 0 0).at_ m = Smp.zero := hya0
                clear hya0
                have hh6 := heap_alloc_new w5 (.cells #[.int .i64 0, .int .i64 0, .int .i64 0, .int .i64 0, .int .i64 0] 26)
                have hr6 := rowOf_kept (n := 46) (by rw [hr5]; rfl) (by decide) ((Below.refl w5.heap.size w5).alloc (Nat.le_refl _) (.cells #[.int .i64 0, .int .i64 0, .int .i64 0, .int .i64 0, .int .i64 0] 26))
                have hB6 := hB5.alloc hB5.size (.cells #[.int .i64 0, .int .i64 0, .int .i64 0, .int .i64 0, .int .i64 0] 26)
                rw [hr5] at hr6
                go_upto_region 14 with fail
                generalize w5.alloc (.cells #[.int .i64 0, .int .i64 0, .int .i64 0, .int .i64 0, .int .i64 0] 26) = w6 at *
                generalize w5.heap.size = bw at *
                obtain ⟨q0, q1, q2, q3, q4⟩ := five_in hh6
                have rc := fun j => row_cell (w := w6) (b := bf) (n := 46) (by rw [hr6]; rfl) (by decide) j
                rw [hr6] at rc
                obtain ⟨d0, d1, d2, d3, d4⟩ := fl_cell (Fl.mk (newS l (k + 1)) had used 0 0 0) m hm8
                have p0 := (rc (5 * m)).trans d0
                have p1 := (rc (5 * m + 1)).trans d1
                have p2 := (rc (5 * m + 2)).trans d2
                have p3 := (rc (5 * m + 3)).trans d3
                have p4 := (rc (5 * m + 4)).trans d4
                rw [hya, Nat.mul_comm] at p0 p1 p2 p3 p4
                change _ = some (Value.int .i64 0) at p0
                change _ = some (Value.int .i64 0) at p1
                change _ = some (Value.int .i64 0) at p2
                change _ = some (Value.int .i64 0) at p3
                change _ = some (Value.int .i64 0) at p4
                clear rc d0 d1 d2 d3 d4 hh6
                have ne := smp_neq 0 0 0 0 0
                have HR6 := Lib.hid hr6
                clear hr6
                go_quiet (fail)
                go_wp2_with fail
                go_roundw
                case rel => exact ⟨m + 1, by omega, by go_num, HR6.out, below_drewN hB6 _⟩
                case measure => simp [intOf]; omega
            · obtain rfl : m = 8 := by omega
              go_wp2_with fail
              go_roundw
              case rel => exact ⟨k + 1, by omega, by go_num, hr5, hB5⟩
              case measure => simp [intOf]; omega
      · obtain rfl : k = l.length := by omega
        have hln := new_length l l.length (Nat.le_refl _)
        have rc := fun j => row_cell (w := wr) (b := bf) (n := 46) (by rw [hr]; rfl) (by decide) j
        rw [hr] at rc
        obtain ⟨d0, d1, d2⟩ := fl_rest (Fl.mk (newS l l.length) had used 0 0 0)
        have p0 := (rc 40).trans d0
        have p1 := (rc 41).trans d1
        have p2 := (rc 42).trans d2
        dsimp only at p0 p1 p2
        rw [hln] at p0
        clear rc d0 d1 d2 hr hln
        have hc : (l.length < 8 ∧ min l.length 8 = l.length) ∨ (l.length = 8 ∧ min l.length 8 = 8) ∨ (8 < l.length ∧ min l.length 8 = 8) := by omega
        generalize min l.length 8 = mn at *
        rcases hc with ⟨hc, rfl⟩ | ⟨hc, rfl⟩ | ⟨hc, rfl⟩
        · have mm := fun ts t => run_minS (l.length : Int) 8 (l.length : Int) (by omega) ts t
          go_wp2_with fail
          go_ret
          exact ⟨rfl, hB⟩
        · go_wp2_with fail
          go_ret
          exact ⟨rfl, hB⟩
        · have mm := fun ts t => run_minS (l.length : Int) 8 8 (by omega) ts t
          go_wp2_with fail
          go_ret
          exact ⟨rfl, hB⟩
set_option maxRecDepth 100000 in
theorem lifted (os : Os) (started : os.Started) (H : Type) (enc : TypeId × Value → H) :
    ReturnsInHanded {} Tryz.checked os 6 .any (Rows.filterEightSpec.pre6 enc Tryz.prog Tryz.f6 Rows.filterEightRow.domain false) (Rows.filterEightSpec.post enc Tryz.prog Tryz.f6 false true false false) := by
  refine returnsInHanded_of_change (C := Tryz.checked) own started (by kernel_rfl) Tryz.func6
    (ChangeSpec.witness6 (enc := enc) (C := Tryz.checked) false ⟨#[], #[.slice none 0 0, .bool false, .int .i64 0], []⟩ 8 (by kernel_rfl) (by kernel_rfl) (by kernel_rfl) (by kernel_rfl)) ?_
  intro W base args ds gs before hval0 hW hcnd _
  have hval : ∀ (j : Nat) t v, Tryz.f6.params[j]? = some t → args[j]? = some v → Value.okWide Tryz.prog W .any base t v := hval0
  have hW' := hW
  obtain ⟨p, q, hA0, hV, rfl, hfz, hnd⟩ := hW
  have hA : DataW.TrodAll enc Tryz.prog W 0 (fun _ => true) true Tryz.f6.params.toList args.toList ds p := hA0
  rw [Tryz.params6] at hA hval
  obtain ⟨v0, vs0, d0, ds0, p0, q0, hargs, rfl, rfl, h0, r0⟩ := trodAll_cons hA
  obtain ⟨v1, vs1, d1, ds1, p1, q1, rfl, rfl, rfl, h1, r1⟩ := trodAll_cons r0
  obtain ⟨v2, vs2, d2, ds2, p2, q2, rfl, rfl, rfl, h2, r2⟩ := trodAll_cons r1
  obtain ⟨rfl, rfl, rfl⟩ := trodAll_nil r2
  obtain rfl : args = #[v0, v1, v2] := by cases args; simp_all
  obtain ⟨rfl, rfl⟩ := trodVars_none hV
  have k0 := h0
  have lt0 : ∀ x ∈ p0, x.block < W.heap.size := by obtain ⟨m, hm⟩ := k0; exact DataW.trod_lt m _ _ _ hm
  obtain ⟨a0, len0, cap0, rfl⟩ := okWide_slice Tryz.underlying22 (hval 0 22 v0 rfl rfl)
  obtain ⟨z0, w0a, w0b, w0c⟩ : ∃ l : List Smp, SlAt (fun b => b < W.heap.size) 5 smE W (.slice a0 len0 cap0) l ∧ (∀ f ∈ l, Smp.Typed f) ∧ l.length ≤ maxLen := by
    obtain ⟨fuel, hf⟩ := h0
    obtain ⟨v, l, hcs, h1, h2, h3⟩ := open_smps hf
    simp [Value.cells] at hcs
    subst hcs
    exact ⟨l, h1, h2, h3⟩
  obtain ⟨a1, rfl, rfl, rfl⟩ := open_bool Tryz.underlying4 (hval 1 4 v1 rfl rfl) h1
  obtain ⟨a2, rfl, rfl, rfl, w2⟩ := open_int Tryz.underlying2 (hval 2 2 v2 rfl rfl) h2
  clear hA0 hval0
  refine (walk (.slice a0 len0 cap0) z0 a1 a2 W w0a w0b w0c w2).mono fun e W' ⟨he, bel⟩ => ?_
  subst he
  exact ⟨_, rfl, _, _, _, [], _, [], hW', trodAll_mk1 (shut_bool Tryz.underlying4 _), (trodAll_cons_mk (Below.trod laidOut (by kernel_rfl) (of_decide_eq_true (by kernel_rfl)) k0 bel lt0) (trodAll_cons_mk (shut_bool Tryz.underlying4 _) (trodAll_cons_mk (shut_int Tryz.underlying2 w2) trodAll_mk0))), rfl, bel.frame _, fun h => by cases h⟩

theorem over : Rows.filterEightRow.holds Tryz.pinned (OpenSpec.ofChange Rows.filterEightSpec) :=
  OpenClaim.holds_of_wide 6 Tryz.f6 rfl rfl rfl rfl rfl rfl rfl ⟨rfl, rfl, rfl, rfl, rfl⟩ rfl rfl rfl rfl rfl (by kernel_rfl) Tryz.func6 (by kernel_rfl)
    (of_decide_eq_true (by kernel_rfl)) (by unfold Func.isWrapper; first | (rw [if_pos (by decide +kernel)]; kernel_rfl) | (rw [if_neg (by decide +kernel)]; exact ⟨rfl, rfl⟩))
    (fun os started H enc _ => lifted os started H enc)

theorem proved : Rows.FilterEightSaid := over
end Go.Proofs.YtiadaaihlimloaaGreat.FilterEight
