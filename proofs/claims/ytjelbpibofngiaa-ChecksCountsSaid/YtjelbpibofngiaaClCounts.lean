/- ChecksCounts: for every list of at most 1024 endings each is counted once. (A longer list is let go by the statement itself.) No condition. -/
import Derived.Test.YtjelbpibofngiaaCkY
import Derived.Test.YtjelbpibofngiaaCkB
import Derived.Test.YtjelbpibofngiaaRowS
import Derived.WalkKit
import Derived.WalkSpells
import Derived.WalkLawsBesides
import Derived.Lib.Hide
import Derived.Handy
import Derived.ProofKit
import Derived.OpenShut
import Derived.ShutString
import Derived.ChangeOld
import Derived.Below
namespace Go.Proofs.Ytjelbpibofngiaa.ChecksCounts
open Go.Proofs.Ytjelbpibofngiaa.W
open Go.ChangeShapes Go.WideShapes Go.ChangeAt Go.RowKit
open Go.ChangeMaps (open_string shut_string)
set_option linter.unusedVariables false
theorem own : ownKnob Try.prog.godebug = none := by kernel_rfl
theorem laidOut : laidOutB Try.prog = true := by kernel_rfl
open Go.Sort
set_option linter.unusedSimpArgs false
set_option maxRecDepth 100000 in
set_option maxHeartbeats 12800000 in
theorem walk (a0 : Option Addr) (len0 cap0 : Nat) (zs : List Int) (w : World) (w0 : IsRow .i64 w a0 len0 cap0 zs) :
    Calls Try.prog 5 #[.slice a0 len0 cap0] w fun e w' => e = .returned (.bool true) ∧ Below w.heap.size w w' := by
  obtain ⟨z, rfl, hz, iv⟩ := w0.sl
  have IV := Lib.hid iv
  have HZ := Lib.hid hz
  clear iv hz w0
  have c3 := shown12_any
  by_cases hl : 1024 < z.length
  · have hli : 1024 < (z.length : Int) := by omega
    go_enter Try.func5, Try.ntmps5
    go_wp2_with fail
    (with_reducible refine (c3 _).mono ?_)
    rintro e w1 ⟨rfl, hB⟩
    go_wp2_with fail
    go_ret
    exact ⟨rfl, hB⟩
  · have hli : ¬ 1024 < (z.length : Int) := by omega
    go_enter Try.func5, Try.ntmps5
    go_wp2_with fail
    (with_reducible refine (c3 _).mono ?_)
    rintro e w1 ⟨rfl, hB1⟩
    have hq1 := hB1.alloc hB1.size (.cells #[.int .i64 0, .int .i64 0, .int .i64 0, .int .i64 0, .int .i64 0, .int .i64 0, .int .i64 0, .int .i64 0, .int .i64 0, .int .i64 0] 38)
    have hs1 := heap_alloc_new w1 (.cells #[.int .i64 0, .int .i64 0, .int .i64 0, .int .i64 0, .int .i64 0, .int .i64 0, .int .i64 0, .int .i64 0, .int .i64 0, .int .i64 0] 38)
    have hwb := hB1.size
    go_upto_region 4 with fail
    generalize w1.alloc (.cells #[.int .i64 0, .int .i64 0, .int .i64 0, .int .i64 0, .int .i64 0, .int .i64 0, .int .i64 0, .int .i64 0, .int .i64 0, .int .i64 0] 38) = w2 at *
    generalize w1.heap.size = bs at *
    clear hB1 c3 w1
    go_wp2_with fail
    go_loopw [4] (fun i wr => ∃ j : Nat, j ≤ z.length ∧ i = .int .i64 j ∧ wr.heap[bs]? = some (.cells #[.int .i64 (cntN (z.take j) 0), .int .i64 (cntN (z.take j) 1), .int .i64 (cntN (z.take j) 2), .int .i64 (cntN (z.take j) 3), .int .i64 (cntN (z.take j) 4), .int .i64 (cntN (z.take j) 5), .int .i64 (cntN (z.take j) 6), .int .i64 (cntN (z.take j) 7), .int .i64 (cntN (z.take j) 8), .int .i64 (cntN (z.take j) 9)] 38 (0, 0)) ∧ Below w.heap.size w wr) (fun i _ => z.length - (intOf i).toNat)
    case atStart => exact ⟨0, Nat.zero_le _, rfl, hs1, hq1⟩
    case round =>
      obtain ⟨j, hj, rfl, hs, hq⟩ := hrel
      clear hs1 hq1
      have hb : ∀ k, 0 ≤ cntN (z.take j) k ∧ cntN (z.take j) k ≤ 1024 := fun k => by
        have := cnt_bounds (z.take j) k
        rw [List.length_take] at this
        omega
      by_cases hlt : j < z.length
      · obtain ⟨y, hy, hym⟩ := at_index z j hlt
        have hnx : cntN (z.take (j + 1)) = bumpN (cntN (z.take j)) y := by
          rw [List.take_add_one, hy]
          exact cnt_snoc _ _
        have HN := Lib.hid hnx
        clear hnx
        generalize cntN (z.take j) = n at *
        rcases IV.out with ⟨_, _, _, _, rfl⟩ | ⟨b, off, cap, hv, hbl, hc⟩
        · simp at hlt
        · simp only [Value.slice.injEq] at hv
          obtain ⟨rfl, _, rfl⟩ := hv
          have yb := i64_bounds (HZ.out y hym)
          have cw : wr.cell? ⟨b, off + j, none⟩ = some (.int .i64 y) := by
            have := hc j y hy 0 _ rfl
            rw [Nat.mul_one, Nat.add_zero] at this
            exact ((bcell hq).1 b _ hbl).trans this
          have i0 : (0 : Int) ≤ (j : Int) := by omega
          have i1 : (j : Int) < (z.length : Int) := by omega
          have y1 := jcount_any n (fun k => by have := hb k; omega) y yb.1 yb.2
          unfold tenV at y1
          generalize bumpN n y = n2 at *
          obtain ⟨r0, r1, r2, r3, r4, r5, r6, r7, r8, r9⟩ := ten_in hs
          have k0 := cell_regrown r0
          have k1 := cell_regrown r1
          have k2 := cell_regrown r2
          have k3 := cell_regrown r3
          have k4 := cell_regrown r4
          have k5 := cell_regrown r5
          have k6 := cell_regrown r6
          have k7 := cell_regrown r7
          have k8 := cell_regrown r8
          have k9 := cell_regrown r9
          have k10 := cell_regrown cw
          have f2 := fun d os => Calls.regrown_of (y1 (grow (redrawn wr d) os))
          clear hy hc hb
          go_wp2_with fail
          refine wp_region_below_tail 6 (by kernel_rfl) (by kernel_rfl) ?_
          simp only [List.take_succ_cons, List.take_zero, List.drop_succ_cons, List.drop_zero]
          repeat (quiet_step (first | (with_reducible exact f2 _ _)))
          refine wpQuiet_nil ?_
          intro wa hwa
          replace hwa := quiet_world10 hwa
          clear f2 y1 k0 k1 k2 k3 k4 k5 k6 k7 k8 k9 k10 r0 r1 r2 r3 r4 r5 r6 r7 r8 r9 cw
          have hsa := kept hs hwa
          have hqa := hq.trans (hwa.mono hq.size)
          clear hs hq hwa
          have hsB := tenPut_at (a0 := .int .i64 (n2 0)) (a1 := .int .i64 (n2 1)) (a2 := .int .i64 (n2 2)) (a3 := .int .i64 (n2 3)) (a4 := .int .i64 (n2 4)) (a5 := .int .i64 (n2 5)) (a6 := .int .i64 (n2 6)) (a7 := .int .i64 (n2 7)) (a8 := .int .i64 (n2 8)) (a9 := .int .i64 (n2 9)) hsa
          have hqB := tenPut_below (.int .i64 (n2 0)) (.int .i64 (n2 1)) (.int .i64 (n2 2)) (.int .i64 (n2 3)) (.int .i64 (n2 4)) (.int .i64 (n2 5)) (.int .i64 (n2 6)) (.int .i64 (n2 7)) (.int .i64 (n2 8)) (.int .i64 (n2 9)) hqa hwb
          obtain ⟨r0, r1, r2, r3, r4, r5, r6, r7, r8, r9⟩ := ten_in hsa
          have fr := ten_thaw hsa
          have E := Lib.hid (And.intro hsB hqB)
          clear hsB hqB hsa hqa
          unfold tenPut at E
          go_upto_region 6 with fail
          change Code.wp _ _ _ _ (tenPut wa bs (.int .i64 (n2 0)) (.int .i64 (n2 1)) (.int .i64 (n2 2)) (.int .i64 (n2 3)) (.int .i64 (n2 4)) (.int .i64 (n2 5)) (.int .i64 (n2 6)) (.int .i64 (n2 7)) (.int .i64 (n2 8)) (.int .i64 (n2 9)))
          obtain ⟨hsB, hqB⟩ := E.out
          change (tenPut wa bs (.int .i64 (n2 0)) (.int .i64 (n2 1)) (.int .i64 (n2 2)) (.int .i64 (n2 3)) (.int .i64 (n2 4)) (.int .i64 (n2 5)) (.int .i64 (n2 6)) (.int .i64 (n2 7)) (.int .i64 (n2 8)) (.int .i64 (n2 9))).heap[bs]? = _ at hsB
          change Below _ _ (tenPut wa bs (.int .i64 (n2 0)) (.int .i64 (n2 1)) (.int .i64 (n2 2)) (.int .i64 (n2 3)) (.int .i64 (n2 4)) (.int .i64 (n2 5)) (.int .i64 (n2 6)) (.int .i64 (n2 7)) (.int .i64 (n2 8)) (.int .i64 (n2 9))) at hqB
          clear E r0 r1 r2 r3 r4 r5 r6 r7 r8 r9 fr
          generalize tenPut wa bs (.int .i64 (n2 0)) (.int .i64 (n2 1)) (.int .i64 (n2 2)) (.int .i64 (n2 3)) (.int .i64 (n2 4)) (.int .i64 (n2 5)) (.int .i64 (n2 6)) (.int .i64 (n2 7)) (.int .i64 (n2 8)) (.int .i64 (n2 9)) = wb at *
          go_wp2_with fail
          go_roundw
          case rel => exact ⟨j + 1, by omega, by go_num, by rw [HN.out]; exact hsB, hqB⟩
          case measure => simp [intOf]; omega
      · obtain rfl : j = z.length := by omega
        rw [List.take_length] at hs hb
        have es := cnt_sum z
        generalize cntN z = n at *
        have hsum : ∀ k : Nat, k ≤ 10 → 0 ≤ sumN n k ∧ sumN n k ≤ 1024 * k := fun k => by
          induction k with
          | zero => intro _; simp [sumN]
          | succ k ih =>
            intro hk
            have := ih (by omega)
            have := hb k
            simp only [sumN]
            rw [Int.natCast_add]
            omega
        go_wp2_with fail
        go_loopw [5, 6] (fun s i wt => ∃ k : Nat, k ≤ 10 ∧ s = .int .i64 (sumN n k) ∧ i = .int .i64 k ∧ wt = wr) (fun _ i _ => 10 - (intOf i).toNat)
        case atStart => exact ⟨0, Nat.zero_le _, rfl, rfl, rfl⟩
        case round =>
          obtain ⟨k, hk, rfl, rfl, rfl⟩ := hrel
          by_cases hk10 : k < 10
          · have ck := ten_nth hs hk10
            have nk := hb k
            have sk := hsum k (by omega)
            have g0 : (0 : Int) ≤ (k : Int) := by omega
            have g1 : (k : Int) < 10 := by omega
            have ess : sumN n (k + 1) = sumN n k + n k := rfl
            have ES := Lib.hid ess
            clear ess hs
            generalize sumN n k = sm at *
            generalize n k = nn at *
            go_wp2_with fail
            go_roundw
            case rel => exact ⟨k + 1, by omega, by rw [ES.out], by go_num, by first | trivial | rfl⟩
            case measure => simp [intOf]; omega
          · obtain rfl : k = 10 := by omega
            rw [es]
            go_wp2_with fail
            go_ret
            exact ⟨rfl, hq⟩
set_option maxRecDepth 100000 in
theorem lifted (os : Os) (started : os.Started) (H : Type) (enc : TypeId × Value → H) :
    ReturnsInHanded {} Try.checked os 5 .any (Rows.checksCountsSpec.pre6 enc Try.prog Try.f5 Rows.checksCountsRow.domain false) (Rows.checksCountsSpec.post enc Try.prog Try.f5 false true false false) := by
  refine returnsInHanded_of_change (C := Try.checked) own started (by kernel_rfl) Try.func5
    (ChangeSpec.witness6 (enc := enc) (C := Try.checked) false ⟨#[], #[.slice none 0 0], []⟩ 8 (by kernel_rfl) (by kernel_rfl) (by kernel_rfl) (by kernel_rfl)) ?_
  intro W base args ds gs before hval0 hW hcnd _
  have hval : ∀ (j : Nat) t v, Try.f5.params[j]? = some t → args[j]? = some v → Value.okWide Try.prog W .any base t v := hval0
  have hW' := hW
  obtain ⟨p, q, hA0, hV, rfl, hfz, hnd⟩ := hW
  have hA : DataW.TrodAll enc Try.prog W 0 (fun _ => true) true Try.f5.params.toList args.toList ds p := hA0
  rw [Try.params5] at hA hval
  obtain ⟨v0, vs0, d0, ds0, p0, q0, hargs, rfl, rfl, h0, r0⟩ := trodAll_cons hA
  obtain ⟨rfl, rfl, rfl⟩ := trodAll_nil r0
  obtain rfl : args = #[v0] := by cases args; simp_all
  obtain ⟨rfl, rfl⟩ := trodVars_none hV
  obtain ⟨a0, len0, cap0, rfl⟩ := okWide_slice Try.underlying36 (hval 0 36 v0 rfl rfl)
  have k0 := h0
  have lt0 : ∀ x ∈ p0, x.block < W.heap.size := by obtain ⟨m, hm⟩ := k0; exact DataW.trod_lt m _ _ _ hm
  obtain ⟨z0, w0⟩ : ∃ zs, IsRow .i64 W a0 len0 cap0 zs := by
    obtain ⟨fuel, hf⟩ := h0
    rcases open_ints Try.underlying36 Try.underlying3 (by kernel_rfl) hf with ⟨hcs, _⟩ | ⟨x, l, c, zs, hcs, _, hl, hm, hz, _, hcell, hwz⟩
    · simp [Value.cells] at hcs
      obtain ⟨rfl, rfl, rfl⟩ := hcs
      exact ⟨[], .inl ⟨rfl, rfl, rfl, rfl⟩⟩
    · simp [Value.cells] at hcs
      obtain ⟨rfl, rfl, rfl⟩ := hcs
      exact ⟨zs, .inr ⟨_, rfl, hl, hm, by simpa using hz, hcell, hwz⟩⟩
  clear hA0 hval0
  refine (walk a0 len0 cap0 z0 W w0).mono fun e W' ⟨he, bel⟩ => ?_
  subst he
  exact ⟨_, rfl, _, _, _, [], _, [], hW', trodAll_mk1 (shut_bool Try.underlying4 _), (trodAll_cons_mk (Below.trod laidOut (by kernel_rfl) (of_decide_eq_true (by kernel_rfl)) k0 bel lt0) trodAll_mk0), rfl, bel.frame _, fun h => by cases h⟩

theorem over : Rows.checksCountsRow.holds Try.pinned (OpenSpec.ofChange Rows.checksCountsSpec) :=
  OpenClaim.holds_of_wide 5 Try.f5 rfl rfl rfl rfl rfl rfl rfl ⟨rfl, rfl, rfl, rfl, rfl⟩ rfl rfl rfl rfl rfl (by kernel_rfl) Try.func5 (by kernel_rfl)
    (of_decide_eq_true (by kernel_rfl)) (by unfold Func.isWrapper; first | (rw [if_pos (by decide +kernel)]; kernel_rfl) | (rw [if_neg (by decide +kernel)]; exact ⟨rfl, rfl⟩))
    (fun os started H enc _ => lifted os started H enc)

theorem proved : Rows.ChecksCountsSaid := over
end Go.Proofs.Ytjelbpibofngiaa.ChecksCounts
