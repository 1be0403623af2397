/- FilterQuiet: samples that all say the same. No condition. -/
import Derived.Test.YtiadaaihlimloaaGreatFrT
import Derived.Test.YtiadaaihlimloaaGreatFrQ
import Derived.Test.YtiadaaihlimloaaGreatQtB
import Derived.BigQuiet
import Derived.WalkKit
import Derived.WalkSpells
import Derived.WalkLawsBesides
import Derived.Lib.Hide
import Derived.Handy
import Derived.ProofKit
import Derived.OpenShut
import Derived.ShutString
import Derived.ChangeOld
import Derived.Below
namespace Go.Proofs.YtiadaaihlimloaaGreat.FilterQuiet
open Go.Proofs.YtiadaaihlimloaaGreat.W
open Go.ChangeShapes Go.WideShapes Go.ChangeAt Go.RowKit
open Go.ChangeMaps (open_string shut_string)
set_option linter.unusedVariables false
theorem own : ownKnob Tryz.prog.godebug = none := by kernel_rfl
theorem laidOut : laidOutB Tryz.prog = true := by kernel_rfl
open Go.Sort
set_option linter.unusedSimpArgs false
attribute [local go_sem ↓] ldFl_eq stFl_eq ldTd_eq stTd_eq
theorem end_one {w X : World} {k n : Nat} (C : Array Value) (hk : (rowOf X k).size = 5) (hB : Below n w X) (hn : n ≤ k) : rowOf (X.setRow k C) k = C ∧ Below n w (X.setRow k C) :=
  ⟨rowOf_set C hk (by decide), below_row _ hB hn⟩
set_option maxRecDepth 100000 in
set_option maxHeartbeats 25600000 in
theorem walk (o dl ds many : Int) (w : World) (wo : (Lit.int .i32 o).wf = true) (wl : (Lit.int .u16 dl).wf = true) (wd : (Lit.int .u16 ds).wf = true) (wm : (Lit.int .u8 many).wf = true) :
    Calls Tryz.prog 5 #[.int .i32 o, .int .u16 dl, .int .u16 ds, .int .u8 many] w fun e w' => e = .returned (.bool true) ∧ Below w.heap.size w w' := by
  have o0 : -2147483648 ≤ o ∧ o ≤ 2147483647 := by have := bounds_i32 wo; omega
  have l0 : 0 ≤ dl ∧ dl ≤ 65535 := by have := bounds_u16 wl; omega
  have d0 : 0 ≤ ds ∧ ds ≤ 65535 := by have := bounds_u16 wd; omega
  have m0 : 0 ≤ many ∧ many ≤ 255 := by have := bounds_u8 wm; omega
  clear wo wl wd wm
  have c1 := std14_any
  have c4 := shown14_any
  have H := std_params
  have hphi : 0 ≤ (chkP stdC).phi ∧ (chkP stdC).phi ≤ 1000000 := by rw [std_phi]; decide
  generalize chkP stdC = p at *
  obtain ⟨n, hn⟩ : ∃ n : Nat, (1 + many % 12) = (n : Int) := ⟨(1 + many % 12).toNat, by omega⟩
  have hn1 : 1 ≤ n ∧ n ≤ 12 := by omega
  have tm : many.tmod 12 = (n : Int) - 1 := by rw [Int.tmod_eq_emod_of_nonneg (by omega)]; omega
  have te : ∀ i, (eqS o dl ds i).disp = ds ∧ (eqS o dl ds i).off = o ∧ (eqS o dl ds i).del = dl := fun i => ⟨rfl, rfl, rfl⟩
  have ts : ∀ i, i < 12 → (eqS o dl ds i).Typed := fun i hi => ⟨by show -9223372036854775808 ≤ o ∧ o ≤ _; omega, by show -9223372036854775808 ≤ dl ∧ dl ≤ _; omega, by show -9223372036854775808 ≤ ds ∧ ds ≤ _; omega, by show -9223372036854775808 ≤ (i : Int) ∧ (i : Int) ≤ _; omega, by show -9223372036854775808 ≤ (0 : Int) ∧ (0 : Int) ≤ _; decide⟩
  have tl : ∀ s ∈ eqL o dl ds, s.Typed := fun s hs => by
    unfold eqL at hs
    obtain ⟨k, hk, rfl⟩ := List.mem_map.1 hs
    exact ts k (List.mem_range.1 hk)
  have F0 : ∀ i, (Fl.mk (newS (eqL o dl ds) i) false 0 0 0 0).Typed := fun i => ⟨new_typed tl i, by show (newS (eqL o dl ds) i).length ≤ 8; unfold newS; rw [List.length_take]; omega, by dsimp only; decide, by dsimp only; decide, by dsimp only; decide, by dsimp only; decide⟩
  go_enter Tryz.func5, Tryz.ntmps5
  go_wp2_with (first | (refine at_alloc_fl rfl rfl ?_) | (refine at_store_fl rfl _ _ rfl _ rfl Fl.zero rfl _ (rowOf_new _ _ _) ?_; rw [setRow_new]))
  have hr2 := rowOf_new w Fl.zero.cells 29
  have hB2 := (Below.refl w.heap.size w).alloc (Nat.le_refl _) (.cells Fl.zero.cells 29)
  have hl2 : w.heap.size < (w.alloc (.cells Fl.zero.cells 29)).heap.size := by simp
  have hwb : w.heap.size ≤ w.heap.size := Nat.le_refl _
  generalize w.alloc (.cells Fl.zero.cells 29) = w2 at *
  simp only [show (1 + ((n : Int) - 1)) = (n : Int) from by omega]
  go_loopw [11] (fun i wr => ∃ k : Nat, k ≤ n ∧ i = .int .i64 k ∧ rowOf wr w.heap.size = (Fl.mk (newS (eqL o dl ds) k) false 0 0 0 0).cells ∧ Below w.heap.size w wr ∧ w.heap.size < wr.heap.size) (fun i _ => n - (intOf i).toNat)
  case atStart => exact ⟨0, Nat.zero_le _, rfl, by rw [new_zero]; exact hr2, hB2, hl2⟩
  case round =>
    obtain ⟨k, hk, rfl, hr, hB, hlt⟩ := hrel
    by_cases hk2 : k < n
    · have cp := fput_any _ (F0 k) _ (ts k (by omega))
      have nx := new_next (eqL o dl ds) k _ (eqL_at o dl ds (by omega))
      have ep : putF ⟨newS (eqL o dl ds) k, false, 0, 0, 0, 0⟩ (eqS o dl ds k) = ⟨newS (eqL o dl ds) (k + 1), false, 0, 0, 0, 0⟩ := by unfold putF; rw [nx]
      rw [ep] at cp
      unfold Fl.val Smp.val eqS at cp
      dsimp only at cp
      clear ep nx c1 c4
      go_wp2_with (refine at_load_fl rfl _ rfl w.heap.size rfl _ hr ?_)
      (with_reducible refine (cp _).mono ?_)
      rintro e w3 ⟨rfl, hw⟩
      have hr3 := (rowOf_kept (n := 46) (by rw [hr]; rfl) (by decide) hw).trans hr
      have hB3 := hB.trans (hw.mono hB.size)
      have hl3 : w.heap.size < w3.heap.size := Nat.lt_of_lt_of_le hlt hw.size
      go_wp2_with (refine at_store_fl rfl _ _ rfl w.heap.size rfl _ rfl _ hr3 ?_)
      have hr4 := rowOf_set (Fl.mk (newS (eqL o dl ds) (k + 1)) false 0 0 0 0).cells (show (rowOf w3 w.heap.size).size = 46 by rw [hr3]; rfl) (by decide)
      have hB4 := below_row (Fl.mk (newS (eqL o dl ds) (k + 1)) false 0 0 0 0).cells hB3 hwb
      have hl4 : w.heap.size < (w3.setRow w.heap.size (Fl.mk (newS (eqL o dl ds) (k + 1)) false 0 0 0 0).cells).heap.size := by simpa [World.setRow] using hl3
      go_roundw
      case rel => exact ⟨k + 1, by omega, by go_num, hr4, hB4, hl4⟩
      case measure => simp [intOf]; omega
    · obtain rfl : k = n := by omega
      obtain ⟨D, x, eT, hD1, hD2⟩ := quiet_told p hphi o dl ds o0 d0 k hn1 false 0 0 0 0
      have c3 := ftell_any p H.typed _ (F0 k) (-18) k 0 (by decide) (by omega) (by decide)
      rw [eT] at c3
      have eb : tellB ⟨newS (eqL o dl ds) k, false, 0, 0, 0, 0⟩ = true := by
        have hl := new_length (eqL o dl ds) k (by simp [eqL]; omega)
        unfold tellB
        dsimp only
        cases h : newS (eqL o dl ds) k with
        | nil => rw [h] at hl; simp at hl; omega
        | cons a b => rfl
      rw [eb] at c3
      unfold Fl.val Told.val Pm.val at *
      dsimp only at c3
      clear eb eT F0 tl ts te hB2 hr2 hl2
      generalize (Fl.mk (newS (eqL o dl ds) k) false 0 0 0 0) = F at *
      go_wp2_with fail
      go_cut [12, 13] (fun ps e wx => ∃ b : Nat, ps = .pointer (some ⟨b, 0, none⟩) ∧ e = .bool true ∧ rowOf wx b = #[.int .i64 o, .int .i64 dl, .int .i64 D, .int .i64 16384, .int .i64 x] ∧ Below w.heap.size w wx)
      case first =>
        go_region_held3 (fun w' => rowOf w' w.heap.size = F.cells)
          (with_reducible (repeat (first | assumption | (refine rowOf_al ?_) | (refine rowOf_dr ?_) | (refine (rowOf_far _ (by omega)).trans ?_))))
          (first
            | (go_at_call 11; (with_reducible refine (c1 _).mono ?_); rintro e v1 ⟨rfl, g1⟩; have yv1 : w.heap.size < v1.heap.size := (by refine Nat.lt_of_lt_of_le ?_ g1.size; with_reducible (first | (first | (first | assumption | exact ltn _ _ | exact ltnd _ _ | (refine ltd ?_; assumption)) | (refine lta ?_; first | assumption | exact ltn _ _ | exact ltnd _ _ | (refine ltd ?_; assumption))) | (refine ltd ?_; first | (first | assumption | exact ltn _ _ | exact ltnd _ _ | (refine ltd ?_; assumption)) | (refine lta ?_; first | assumption | exact ltn _ _ | exact ltnd _ _ | (refine ltd ?_; assumption))))); have Bv1 : Below w.heap.size w v1 := (by refine belo ?_ g1; with_reducible (repeat (first | assumption | refine Below.drew ?_ | refine al ?_ _))); (try (have sv1_0 : (rowOf v1 wr.heap.size).size = 5 := by (refine szk ?_ (by decide) g1; with_reducible (first | (first | (first | assumption | (refine szn _ _ _ ?_; first | exact lit46 | exact lit5 _ _ _ _ _) | (refine sznd _ _ _ ?_; first | exact lit46 | exact lit5 _ _ _ _ _)) | (refine sza ?_ (by decide); first | assumption | (refine szn _ _ _ ?_; first | exact lit46 | exact lit5 _ _ _ _ _) | (refine sznd _ _ _ ?_; first | exact lit46 | exact lit5 _ _ _ _ _))) | (refine szd ?_; first | (first | assumption | (refine szn _ _ _ ?_; first | exact lit46 | exact lit5 _ _ _ _ _) | (refine sznd _ _ _ ?_; first | exact lit46 | exact lit5 _ _ _ _ _)) | (refine sza ?_ (by decide); first | assumption | (refine szn _ _ _ ?_; first | exact lit46 | exact lit5 _ _ _ _ _) | (refine sznd _ _ _ ?_; first | exact lit46 | exact lit5 _ _ _ _ _))))))); (try (have zv1_0 : wr.heap.size < v1.heap.size := by (refine Nat.lt_of_lt_of_le ?_ g1.size; with_reducible (first | (first | (first | assumption | exact ltn _ _ | exact ltnd _ _ | (refine ltd ?_; assumption)) | (refine lta ?_; first | assumption | exact ltn _ _ | exact ltnd _ _ | (refine ltd ?_; assumption))) | (refine ltd ?_; first | (first | assumption | exact ltn _ _ | exact ltnd _ _ | (refine ltd ?_; assumption)) | (refine lta ?_; first | assumption | exact ltn _ _ | exact ltnd _ _ | (refine ltd ?_; assumption))))))); have rv1 : rowOf v1 w.heap.size = F.cells := (by refine rowOf_ke ?_ g1; with_reducible (first | (first | assumption | (refine rowOf_al ?_; assumption)) | (refine rowOf_dr ?_; first | assumption | (refine rowOf_al ?_; assumption)))))
            | (go_at_call 12; (with_reducible refine (c3 _).mono ?_); rintro e v2 ⟨rfl, g2⟩; have yv2 : w.heap.size < v2.heap.size := (by refine Nat.lt_of_lt_of_le ?_ g2.size; with_reducible (first | (first | (first | assumption | exact ltn _ _ | exact ltnd _ _ | (refine ltd ?_; assumption)) | (refine lta ?_; first | assumption | exact ltn _ _ | exact ltnd _ _ | (refine ltd ?_; assumption))) | (refine ltd ?_; first | (first | assumption | exact ltn _ _ | exact ltnd _ _ | (refine ltd ?_; assumption)) | (refine lta ?_; first | assumption | exact ltn _ _ | exact ltnd _ _ | (refine ltd ?_; assumption))))); have Bv2 : Below w.heap.size w v2 := (by refine belo ?_ g2; with_reducible (repeat (first | assumption | refine Below.drew ?_ | refine al ?_ _))); (try (have sv2_0 : (rowOf v2 wr.heap.size).size = 5 := by (refine szk ?_ (by decide) g2; with_reducible (first | (first | (first | assumption | (refine szn _ _ _ ?_; first | exact lit46 | exact lit5 _ _ _ _ _) | (refine sznd _ _ _ ?_; first | exact lit46 | exact lit5 _ _ _ _ _)) | (refine sza ?_ (by decide); first | assumption | (refine szn _ _ _ ?_; first | exact lit46 | exact lit5 _ _ _ _ _) | (refine sznd _ _ _ ?_; first | exact lit46 | exact lit5 _ _ _ _ _))) | (refine szd ?_; first | (first | assumption | (refine szn _ _ _ ?_; first | exact lit46 | exact lit5 _ _ _ _ _) | (refine sznd _ _ _ ?_; first | exact lit46 | exact lit5 _ _ _ _ _)) | (refine sza ?_ (by decide); first | assumption | (refine szn _ _ _ ?_; first | exact lit46 | exact lit5 _ _ _ _ _) | (refine sznd _ _ _ ?_; first | exact lit46 | exact lit5 _ _ _ _ _))))))); (try (have zv2_0 : wr.heap.size < v2.heap.size := by (refine Nat.lt_of_lt_of_le ?_ g2.size; with_reducible (first | (first | (first | assumption | exact ltn _ _ | exact ltnd _ _ | (refine ltd ?_; assumption)) | (refine lta ?_; first | assumption | exact ltn _ _ | exact ltnd _ _ | (refine ltd ?_; assumption))) | (refine ltd ?_; first | (first | assumption | exact ltn _ _ | exact ltnd _ _ | (refine ltd ?_; assumption)) | (refine lta ?_; first | assumption | exact ltn _ _ | exact ltnd _ _ | (refine ltd ?_; assumption))))))); (try (have sv2_1 : (rowOf v2 v1.heap.size).size = 5 := by (refine szk ?_ (by decide) g2; with_reducible (first | (first | (first | assumption | (refine szn _ _ _ ?_; first | exact lit46 | exact lit5 _ _ _ _ _) | (refine sznd _ _ _ ?_; first | exact lit46 | exact lit5 _ _ _ _ _)) | (refine sza ?_ (by decide); first | assumption | (refine szn _ _ _ ?_; first | exact lit46 | exact lit5 _ _ _ _ _) | (refine sznd _ _ _ ?_; first | exact lit46 | exact lit5 _ _ _ _ _))) | (refine szd ?_; first | (first | assumption | (refine szn _ _ _ ?_; first | exact lit46 | exact lit5 _ _ _ _ _) | (refine sznd _ _ _ ?_; first | exact lit46 | exact lit5 _ _ _ _ _)) | (refine sza ?_ (by decide); first | assumption | (refine szn _ _ _ ?_; first | exact lit46 | exact lit5 _ _ _ _ _) | (refine sznd _ _ _ ?_; first | exact lit46 | exact lit5 _ _ _ _ _))))))); (try (have zv2_1 : v1.heap.size < v2.heap.size := by (refine Nat.lt_of_lt_of_le ?_ g2.size; with_reducible (first | (first | (first | assumption | exact ltn _ _ | exact ltnd _ _ | (refine ltd ?_; assumption)) | (refine lta ?_; first | assumption | exact ltn _ _ | exact ltnd _ _ | (refine ltd ?_; assumption))) | (refine ltd ?_; first | (first | assumption | exact ltn _ _ | exact ltnd _ _ | (refine ltd ?_; assumption)) | (refine lta ?_; first | assumption | exact ltn _ _ | exact ltnd _ _ | (refine ltd ?_; assumption))))))); have rv2 : rowOf v2 w.heap.size = F.cells := (by refine rowOf_ke ?_ g2; with_reducible (first | (first | assumption | (refine rowOf_al ?_; assumption)) | (refine rowOf_dr ?_; first | assumption | (refine rowOf_al ?_; assumption))))))
        all_goals (go_wp2_with fail; go_meet)
        all_goals (refine ⟨_, rfl, rfl, end_one _ ?_ ?_ ?_⟩)
        all_goals (first | (with_reducible (first | (first | (first | assumption | (refine szn _ _ _ ?_; first | exact lit46 | exact lit5 _ _ _ _ _) | (refine sznd _ _ _ ?_; first | exact lit46 | exact lit5 _ _ _ _ _)) | (refine sza ?_ (by decide); first | assumption | (refine szn _ _ _ ?_; first | exact lit46 | exact lit5 _ _ _ _ _) | (refine sznd _ _ _ ?_; first | exact lit46 | exact lit5 _ _ _ _ _))) | (refine szd ?_; first | (first | assumption | (refine szn _ _ _ ?_; first | exact lit46 | exact lit5 _ _ _ _ _) | (refine sznd _ _ _ ?_; first | exact lit46 | exact lit5 _ _ _ _ _)) | (refine sza ?_ (by decide); first | assumption | (refine szn _ _ _ ?_; first | exact lit46 | exact lit5 _ _ _ _ _) | (refine sznd _ _ _ ?_; first | exact lit46 | exact lit5 _ _ _ _ _))))) | (with_reducible (first | assumption | (refine al ?_ _; assumption))) | (have h0 := hB.size; have h1 := Bv1.size; have h2 := Bv2.size; omega))
      case rest =>
        obtain ⟨b, rfl, rfl, hv, hB5⟩ := hcut
        have s0 := (cell_of hv (by simp) 0).trans (show _ = some (Value.int .i64 o) from rfl)
        have s1 := (cell_of hv (by simp) 1).trans (show _ = some (Value.int .i64 dl) from rfl)
        have s3 := (cell_of hv (by simp) 3).trans (show _ = some (Value.int .i64 16384) from rfl)
        go_wp2_with fail
        (with_reducible refine (c4 _).mono ?_)
        rintro e w9 ⟨rfl, hB9⟩
        have hv9 := (rowOf_kept (n := 5) (by rw [hv]; rfl) (by decide) hB9).trans hv
        have hB6 := hB5.trans (hB9.mono hB5.size)
        have s2 := (cell_of hv9 (by simp) 2).trans (show _ = some (Value.int .i64 D) from rfl)
        by_cases h1 : k = 1
        · have hk1 : (k : Int) = 1 := by omega
          have hD := hD1 h1
          go_wp2_with fail
          go_ret
          exact ⟨rfl, hB6⟩
        · have hk1 : ¬ (k : Int) = 1 := by omega
          have hD := hD2 h1
          go_wp2_with fail
          go_ret
          exact ⟨rfl, hB6⟩
set_option maxRecDepth 100000 in
theorem lifted (os : Os) (started : os.Started) (H : Type) (enc : TypeId × Value → H) :
    ReturnsInHanded {} Tryz.checked os 5 .any (Rows.filterQuietSpec.pre6 enc Tryz.prog Tryz.f5 Rows.filterQuietRow.domain false) (Rows.filterQuietSpec.post enc Tryz.prog Tryz.f5 false true false false) := by
  refine returnsInHanded_of_change (C := Tryz.checked) own started (by kernel_rfl) Tryz.func5
    (ChangeSpec.witness6 (enc := enc) (C := Tryz.checked) false ⟨#[], #[.int .i32 0, .int .u16 0, .int .u16 0, .int .u8 0], []⟩ 8 (by kernel_rfl) (by kernel_rfl) (by kernel_rfl) (by kernel_rfl)) ?_
  intro W base args ds gs before hval0 hW hcnd _
  have hval : ∀ (j : Nat) t v, Tryz.f5.params[j]? = some t → args[j]? = some v → Value.okWide Tryz.prog W .any base t v := hval0
  have hW' := hW
  obtain ⟨p, q, hA0, hV, rfl, hfz, hnd⟩ := hW
  have hA : DataW.TrodAll enc Tryz.prog W 0 (fun _ => true) true Tryz.f5.params.toList args.toList ds p := hA0
  rw [Tryz.params5] at hA hval
  obtain ⟨v0, vs0, d0, ds0, p0, q0, hargs, rfl, rfl, h0, r0⟩ := trodAll_cons hA
  obtain ⟨v1, vs1, d1, ds1, p1, q1, rfl, rfl, rfl, h1, r1⟩ := trodAll_cons r0
  obtain ⟨v2, vs2, d2, ds2, p2, q2, rfl, rfl, rfl, h2, r2⟩ := trodAll_cons r1
  obtain ⟨v3, vs3, d3, ds3, p3, q3, rfl, rfl, rfl, h3, r3⟩ := trodAll_cons r2
  obtain ⟨rfl, rfl, rfl⟩ := trodAll_nil r3
  obtain rfl : args = #[v0, v1, v2, v3] := by cases args; simp_all
  obtain ⟨rfl, rfl⟩ := trodVars_none hV
  obtain ⟨a0, rfl, rfl, rfl, w0⟩ := open_int Tryz.underlying21 (hval 0 21 v0 rfl rfl) h0
  obtain ⟨a1, rfl, rfl, rfl, w1⟩ := open_int Tryz.underlying30 (hval 1 30 v1 rfl rfl) h1
  obtain ⟨a2, rfl, rfl, rfl, w2⟩ := open_int Tryz.underlying30 (hval 2 30 v2 rfl rfl) h2
  obtain ⟨a3, rfl, rfl, rfl, w3⟩ := open_int Tryz.underlying5 (hval 3 5 v3 rfl rfl) h3
  clear hA0 hval0
  refine (walk a0 a1 a2 a3 W w0 w1 w2 w3).mono fun e W' ⟨he, bel⟩ => ?_
  subst he
  exact ⟨_, rfl, _, _, _, [], _, [], hW', trodAll_mk1 (shut_bool Tryz.underlying4 _), (trodAll_cons_mk (shut_int Tryz.underlying21 w0) (trodAll_cons_mk (shut_int Tryz.underlying30 w1) (trodAll_cons_mk (shut_int Tryz.underlying30 w2) (trodAll_cons_mk (shut_int Tryz.underlying5 w3) trodAll_mk0)))), rfl, bel.frame _, fun h => by cases h⟩

theorem over : Rows.filterQuietRow.holds Tryz.pinned (OpenSpec.ofChange Rows.filterQuietSpec) :=
  OpenClaim.holds_of_wide 5 Tryz.f5 rfl rfl rfl rfl rfl rfl rfl ⟨rfl, rfl, rfl, rfl, rfl⟩ rfl rfl rfl rfl rfl (by kernel_rfl) Tryz.func5 (by kernel_rfl)
    (of_decide_eq_true (by kernel_rfl)) (by unfold Func.isWrapper; first | (rw [if_pos (by decide +kernel)]; kernel_rfl) | (rw [if_neg (by decide +kernel)]; exact ⟨rfl, rfl⟩))
    (fun os started H enc _ => lifted os started H enc)

theorem proved : Rows.FilterQuietSaid := over
end Go.Proofs.YtiadaaihlimloaaGreat.FilterQuiet
