/- FixMiddle: for every list of int64s, the mean lies from the least one to the greatest one, cut; for every int64 and any number of it up to 256, their mean is it, cut. No condition (an empty list, and one of more than 1024 numbers, is let go by the statement itself). -/
import Derived.Test.YtlnoclffgmcgoaaFixZ
import Derived.Test.YtlnoclffgmcgoaaFixJ
import Derived.WalkKit
import Derived.WalkSpells
import Derived.WalkLawsBesides
import Derived.Lib.Hide
import Derived.Handy
import Derived.ProofKit
import Derived.OpenShut
import Derived.ShutString
import Derived.ChangeOld
import Derived.Below
import Derived.OwnWalk
namespace Go.Proofs.Ytlnoclffgmcgoaa.FixMiddle
open Go.Proofs.Ytlnoclffgmcgoaa.W
open Go.ChangeShapes Go.WideShapes Go.ChangeAt Go.RowKit
open Go.ChangeMaps (open_string shut_string)
set_option linter.unusedVariables false
theorem own : ownKnob Try.prog.godebug = none := by kernel_rfl
theorem laidOut : laidOutB Try.prog = true := by kernel_rfl
set_option linter.unusedSimpArgs false
structure LoHi (z : List Int) (k : Nat) (lo hi : Int) : Prop where
  l0 : -9223372036854775808 ≤ lo
  l1 : lo ≤ 9223372036854775807
  h0 : -9223372036854775808 ≤ hi
  h1 : hi ≤ 9223372036854775807
  all : ∀ j, j < k → lo ≤ z.getD j 0 ∧ z.getD j 0 ≤ hi
theorem LoHi.next {z : List Int} {k : Nat} {lo hi lo' hi' : Int} (L : LoHi z k lo hi) (h1 : lo' ≤ lo) (h2 : lo' ≤ z.getD k 0) (h3 : hi ≤ hi') (h4 : z.getD k 0 ≤ hi') (h5 : lo' = lo ∨ lo' = z.getD k 0) (h6 : hi' = hi ∨ hi' = z.getD k 0)
    (x0 : -9223372036854775808 ≤ z.getD k 0) (x1 : z.getD k 0 ≤ 9223372036854775807) : LoHi z (k + 1) lo' hi' := by
  have := L.l0
  have := L.l1
  have := L.h0
  have := L.h1
  refine ⟨by omega, by omega, by omega, by omega, fun j hj => ?_⟩
  by_cases e : j = k
  · subst e; exact ⟨h2, h4⟩
  · have := L.all j (by omega)
    omega
theorem LoHi.sum {z : List Int} {lo hi : Int} (n : Nat) (hn : n ≤ z.length) (h : ∀ j, j < n → lo ≤ z.getD j 0 ∧ z.getD j 0 ≤ hi) : lo * n ≤ (z.take n).sum ∧ (z.take n).sum ≤ hi * n := by
  induction n with
  | zero => simp
  | succ n ih =>
    obtain ⟨i1, i2⟩ := ih (by omega) fun j hj => h j (by omega)
    have := h n (by omega)
    rw [sum_next z n (by omega)]
    rw [show ((n + 1 : Nat) : Int) = n + 1 from by omega, Int.mul_add, Int.mul_add]
    omega
theorem LoHi.mean {z : List Int} {lo hi : Int} (L : LoHi z z.length lo hi) (h : 0 < z.length) : lo ≤ meanI z ∧ -9223372036854775807 ≤ meanI z ∧ (meanI z ≤ hi ∨ (hi < -9223372036854775807 ∧ meanI z ≤ -9223372036854775807)) := by
  have S := LoHi.sum z.length (Nat.le_refl _) L.all
  rw [List.take_length] at S
  have := L.l0
  have := L.l1
  have := L.h0
  have := L.h1
  have q0 : lo ≤ z.sum / (z.length : Int) := by
    rw [Int.le_ediv_iff_mul_le (by omega)]; exact S.1
  have q1 : z.sum / (z.length : Int) ≤ hi := by
    apply Int.le_of_lt_add_one
    apply Int.ediv_lt_of_lt_mul (by omega)
    rw [Int.add_mul]
    omega
  have hv : meanI z = cutI (z.sum / (z.length : Int)) := by unfold meanI; rw [if_neg (by omega)]
  rw [hv]
  unfold cutI
  omega
theorem sum_same (n : Nat) (a : Int) : (List.replicate n a).sum = a * n := by
  induction n with
  | zero => simp
  | succ n ih =>
    rw [List.replicate_succ, List.sum_cons, ih, show ((n + 1 : Nat) : Int) = n + 1 from by omega, Int.mul_add]
    omega
theorem mean_same (n : Nat) (a : Int) (h : 0 < n) : meanI (List.replicate n a) = cutI a := by
  unfold meanI
  rw [if_neg (by simp; omega), sum_same, List.length_replicate, Int.mul_ediv_cancel _ (by omega)]
theorem same_in (n : Nat) (a : Int) (h : -9223372036854775808 ≤ a) (h' : a ≤ 9223372036854775807) : InR (List.replicate n a) := by
  intro x hx
  rw [List.eq_of_mem_replicate hx]
  exact ⟨h, h'⟩
set_option maxHeartbeats 3200000 in
theorem without_any (a0 : Option Addr) (len0 cap0 : Nat) (a1 a2 : Int) (w : World) (hl : 1024 < len0 ∨ len0 = 0) :
    Calls Try.prog 8 #[.slice a0 len0 cap0, .int .i64 a1, .int .u8 a2] w fun e w' => e = .returned (.bool true) ∧ Below w.heap.size w w' := by
  have c := fmean_nil none 0
  rcases hl with hl | rfl
  all_goals
    go_enter Try.func8, Try.ntmps8
    go_wp2_with fail
    (with_reducible refine (c _).mono ?_)
    rintro e w1 ⟨rfl, hB⟩
    go_wp2_with fail
    (with_reducible refine (fshown_any _).mono ?_)
    rintro e w2 ⟨rfl, hb⟩
    replace hB := hB.trans (hb.mono hB.size)
    clear hb
    go_wp2_with fail
    go_ret
    exact ⟨rfl, hB⟩
set_option maxHeartbeats 6400000 in
theorem within_any (b off n cap0 : Nat) (z : List Int) (a1 : Int) (m : Nat) (w : World) (hn : z.length = n) (hl : n ≤ 1024) (h0 : 0 < n) (hz : InR z) (hlt : b < w.heap.size) (hc : ∀ k, k < z.length → w.cell? ⟨b, off + k, none⟩ = some (.int .i64 (z.getD k 0)))
    (p0 : -9223372036854775808 ≤ a1) (p1 : a1 ≤ 9223372036854775807) (hm : m < 256) :
    Calls Try.prog 8 #[.slice (some ⟨b, off, none⟩) n cap0, .int .i64 a1, .int .u8 m] w fun e w' => e = .returned (.bool true) ∧ Below w.heap.size w w' := by
  obtain ⟨i0, hi0, hz0, hz1, hz2⟩ := info_parts infoInts
  have hmean := fmean_any z (some ⟨b, off, none⟩) cap0 hz (by omega) w (.inr ⟨b, off, rfl, hlt, hc⟩)
  rw [hn] at hmean
  have c00 : w.cell? ⟨b, off, none⟩ = some (.int .i64 (z.getD 0 0)) := hc 0 (by omega)
  have HC := Lib.hid hc
  have HN := Lib.hid hn
  obtain ⟨f0, f1⟩ := hz.at_ 0 (by omega)
  have L0 : LoHi z 0 (z.getD 0 0) (z.getD 0 0) := ⟨f0, f1, f0, f1, fun j hj => absurd hj (by omega)⟩
  have hlen : (n == 0) = false := by simp; omega
  have hlen2 : ((n : Int) == 0) = false := by rw [beq_eq_false_iff_ne]; omega
  clear hc hn
  generalize z.getD 0 0 = x at *
  go_enter Try.func8, Try.ntmps8
  go_wp2_with fail
  go_loop [7, 8, 9] (fun u v i => ∃ k : Nat, ∃ lo hi : Int, k ≤ n ∧ i = .int .i64 k ∧ u = .int .i64 lo ∧ v = .int .i64 hi ∧ LoHi z k lo hi) (fun _ _ i => n - (intOf i).toNat)
  case atStart => exact ⟨0, x, x, Nat.zero_le _, rfl, rfl, rfl, L0⟩
  case round =>
    obtain ⟨k, lo, hi, hk, rfl, rfl, rfl, L⟩ := hrel
    by_cases hk2 : k < n
    · obtain ⟨x0, x1⟩ := hz.at_ k (by rw [HN.out]; exact hk2)
      have c0 := HC.out k (by rw [HN.out]; exact hk2)
      have N := fun lo' hi' h1 h2 h3 h4 h5 h6 => L.next (lo' := lo') (hi' := hi') h1 h2 h3 h4 h5 h6 x0 x1
      generalize z.getD k 0 = y at *
      clear c00
      go_wp2_with fail
      all_goals
        go_round
        case rel => exact ⟨k + 1, _, _, by omega, by go_num, rfl, rfl, N _ _ (by omega) (by omega) (by omega) (by omega) (by omega) (by omega)⟩
        case measure => simp [intOf]; omega
    · obtain rfl : k = n := by omega
      have ME := LoHi.mean (z := z) (lo := lo) (hi := hi) (by rw [HN.out]; exact L) (by rw [HN.out]; exact h0)
      obtain ⟨m0, m1, m2⟩ := ME
      have M2 := Lib.hid m2
      clear m2 L c00
      generalize meanI z = mz at *
      go_wp2_with fail
      (with_reducible refine hmean.mono ?_)
      rintro e w1 ⟨rfl, hB⟩
      clear hmean
      go_wp2_with fail
      go_loopw [11, 12] (fun v i wr => ∃ j : Nat, j ≤ m + 1 ∧ i = .int .i64 j ∧ wr.ownsRow w1.heap.size 2 1 v j ((List.replicate j a1).map (Value.int .i64)) ∧ Below w.heap.size w wr ∧ w1.heap.size ≤ wr.heap.size) (fun _ i _ => m + 1 - (intOf i).toNat)
      case atStart => exact ⟨0, Nat.zero_le _, rfl, ownsRow_empty _ _ _, hB.alloc hB.size _, by simp⟩
      case round =>
        obtain ⟨j, hj, rfl, own, hB2, hsz⟩ := hrel
        by_cases hj2 : j ≤ m
        · have hsz2 := hB.size
          go_wp2_with (at_builtin; refine wpList_append_own _ rfl _ _ 30 rfl w1.heap.size 2 i0 (.int .i64 0) 1 8 Try.underlying30 hi0 hz0 hz1 hz2 rfl (by decide) _ _ _ rfl (own.alloc _) ⟨wr.heap.size, 0, none⟩ 1 1 [.int .i64 a1] rfl rfl (World.news_of_block (cs := #[.int .i64 a1]) (t := 2) (fr := (0, 0)) (heap_alloc_new wr _)) (by simp [Value.oneCell']) (by unfold maxLen; omega) (by omega) (by simp; omega) ?_)
          intro v' w2 own2 hgrow _
          have own3 : w2.ownsRow w1.heap.size 2 1 v' (j + 1) ((List.replicate (j + 1) a1).map (Value.int .i64)) := by
            rw [List.map_replicate, List.replicate_succ']
            simpa using own2
          have hB3 : Below w.heap.size w w2 := (hB2.alloc hB2.size _).grown hgrow (by have := hB2.size; simp; omega) (fun g hg => by have := own_ge own g hg; omega)
          have hs3 : w1.heap.size ≤ w2.heap.size := by have := hgrow.size; simp at this; omega
          clear own own2 hgrow
          go_wp2_with fail
          go_roundw
          case rel => exact ⟨j + 1, by omega, by go_num, own3, hB3, hs3⟩
          case measure => simp [intOf]; omega
        · obtain rfl : j = m + 1 := by omega
          obtain ⟨A2, c2, hv, hi⟩ := Ints.own own (by simp)
          have hm2 := fmean_any (List.replicate (m + 1) a1) A2 c2 (same_in _ _ p0 p1) (by simp; omega) wr hi
          rw [mean_same (m + 1) a1 (by omega), List.length_replicate] at hm2
          rw [List.length_replicate] at hv
          subst hv
          clear own hi
          obtain ⟨cc, hcc⟩ : ∃ cc, cutI a1 = cc := ⟨_, rfl⟩
          have hc3 : (a1 < -9223372036854775807 ∧ cc = -9223372036854775807) ∨ (a1 = -9223372036854775807 ∧ cc = -9223372036854775807) ∨ (-9223372036854775807 < a1 ∧ cc = a1) := by
            rw [← hcc]; unfold cutI; omega
          rw [hcc] at hm2
          clear hcc
          rcases M2.out with h2 | ⟨h2, h2'⟩
          · rcases hc3 with ⟨h, rfl⟩ | ⟨h, rfl⟩ | ⟨h, rfl⟩
            · go_wp2_with fail
              all_goals
                (with_reducible refine hm2.mono ?_)
                rintro e w2 ⟨rfl, hb⟩
                have hB3 := hB2.trans (hb.mono hB2.size)
                go_wp2_with fail
                all_goals
                  (with_reducible refine (fshown_any _).mono ?_)
                  rintro e w3 ⟨rfl, hb3⟩
                  go_wp2_with fail
                  go_ret
                  exact ⟨rfl, hB3.trans (hb3.mono hB3.size)⟩
            · subst h
              go_wp2_with fail
              all_goals
                (with_reducible refine hm2.mono ?_)
                rintro e w2 ⟨rfl, hb⟩
                have hB3 := hB2.trans (hb.mono hB2.size)
                go_wp2_with fail
                all_goals
                  (with_reducible refine (fshown_any _).mono ?_)
                  rintro e w3 ⟨rfl, hb3⟩
                  go_wp2_with fail
                  go_ret
                  exact ⟨rfl, hB3.trans (hb3.mono hB3.size)⟩
            · go_wp2_with fail
              all_goals
                (with_reducible refine hm2.mono ?_)
                rintro e w2 ⟨rfl, hb⟩
                have hB3 := hB2.trans (hb.mono hB2.size)
                go_wp2_with fail
                all_goals
                  (with_reducible refine (fshown_any _).mono ?_)
                  rintro e w3 ⟨rfl, hb3⟩
                  go_wp2_with fail
                  go_ret
                  exact ⟨rfl, hB3.trans (hb3.mono hB3.size)⟩
          · rcases hc3 with ⟨h, rfl⟩ | ⟨h, rfl⟩ | ⟨h, rfl⟩
            · go_wp2_with fail
              all_goals
                (with_reducible refine hm2.mono ?_)
                rintro e w2 ⟨rfl, hb⟩
                have hB3 := hB2.trans (hb.mono hB2.size)
                go_wp2_with fail
                all_goals
                  (with_reducible refine (fshown_any _).mono ?_)
                  rintro e w3 ⟨rfl, hb3⟩
                  go_wp2_with fail
                  go_ret
                  exact ⟨rfl, hB3.trans (hb3.mono hB3.size)⟩
            · subst h
              go_wp2_with fail
              all_goals
                (with_reducible refine hm2.mono ?_)
                rintro e w2 ⟨rfl, hb⟩
                have hB3 := hB2.trans (hb.mono hB2.size)
                go_wp2_with fail
                all_goals
                  (with_reducible refine (fshown_any _).mono ?_)
                  rintro e w3 ⟨rfl, hb3⟩
                  go_wp2_with fail
                  go_ret
                  exact ⟨rfl, hB3.trans (hb3.mono hB3.size)⟩
            · go_wp2_with fail
              all_goals
                (with_reducible refine hm2.mono ?_)
                rintro e w2 ⟨rfl, hb⟩
                have hB3 := hB2.trans (hb.mono hB2.size)
                go_wp2_with fail
                all_goals
                  (with_reducible refine (fshown_any _).mono ?_)
                  rintro e w3 ⟨rfl, hb3⟩
                  go_wp2_with fail
                  go_ret
                  exact ⟨rfl, hB3.trans (hb3.mono hB3.size)⟩
theorem walk (a0 : Option Addr) (len0 cap0 : Nat) (z0 : List Int) (a1 a2 : Int) (w : World) (w0 : IsRow .i64 w a0 len0 cap0 z0) (w1 : (Lit.int .i64 a1).wf = true) (w2 : (Lit.int .u8 a2).wf = true) :
    Calls Try.prog 8 #[.slice a0 len0 cap0, .int .i64 a1, .int .u8 a2] w fun e w' => e = .returned (.bool true) ∧ Below w.heap.size w w' := by
  obtain ⟨z, hn, hz, hi⟩ := w0.ints
  obtain ⟨p0, p1⟩ := i64_bounds w1
  have q := bounds_u8 w2
  obtain ⟨m, rfl⟩ : ∃ m : Nat, a2 = m := ⟨a2.toNat, by omega⟩
  by_cases h : 1024 < len0 ∨ len0 = 0
  · exact without_any a0 len0 cap0 a1 m w h
  · rcases hi with rfl | ⟨b, off, rfl, hlt, hc⟩
    · simp at hn; omega
    · exact within_any b off len0 cap0 z a1 m w hn (by omega) (by omega) hz hlt hc p0 p1 (by omega)
set_option maxRecDepth 100000 in
theorem lifted (os : Os) (started : os.Started) (H : Type) (enc : TypeId × Value → H) :
    ReturnsInHanded {} Try.checked os 8 .any (Rows.fixMiddleSpec.pre6 enc Try.prog Try.f8 Rows.fixMiddleRow.domain false) (Rows.fixMiddleSpec.post enc Try.prog Try.f8 false true false false) := by
  refine returnsInHanded_of_change (C := Try.checked) own started (by kernel_rfl) Try.func8
    (ChangeSpec.witness6 (enc := enc) (C := Try.checked) false ⟨#[], #[.slice none 0 0, .int .i64 0, .int .u8 0], []⟩ 8 (by kernel_rfl) (by kernel_rfl) (by kernel_rfl) (by kernel_rfl)) ?_
  intro W base args ds gs before hval0 hW hcnd _
  have hval : ∀ (j : Nat) t v, Try.f8.params[j]? = some t → args[j]? = some v → Value.okWide Try.prog W .any base t v := hval0
  have hW' := hW
  obtain ⟨p, q, hA0, hV, rfl, hfz, hnd⟩ := hW
  have hA : DataW.TrodAll enc Try.prog W 0 (fun _ => true) true Try.f8.params.toList args.toList ds p := hA0
  rw [Try.params8] at hA hval
  obtain ⟨v0, vs0, d0, ds0, p0, q0, hargs, rfl, rfl, h0, r0⟩ := trodAll_cons hA
  obtain ⟨v1, vs1, d1, ds1, p1, q1, rfl, rfl, rfl, h1, r1⟩ := trodAll_cons r0
  obtain ⟨v2, vs2, d2, ds2, p2, q2, rfl, rfl, rfl, h2, r2⟩ := trodAll_cons r1
  obtain ⟨rfl, rfl, rfl⟩ := trodAll_nil r2
  obtain rfl : args = #[v0, v1, v2] := by cases args; simp_all
  obtain ⟨rfl, rfl⟩ := trodVars_none hV
  obtain ⟨a0, len0, cap0, rfl⟩ := okWide_slice Try.underlying30 (hval 0 30 v0 rfl rfl)
  have k0 := h0
  have lt0 : ∀ x ∈ p0, x.block < W.heap.size := by obtain ⟨m, hm⟩ := k0; exact DataW.trod_lt m _ _ _ hm
  obtain ⟨z0, w0⟩ : ∃ zs, IsRow .i64 W a0 len0 cap0 zs := by
    obtain ⟨fuel, hf⟩ := h0
    rcases open_ints Try.underlying30 Try.underlying2 (by kernel_rfl) hf with ⟨hcs, _⟩ | ⟨x, l, c, zs, hcs, _, hl, hm, hz, _, hcell, hwz⟩
    · simp [Value.cells] at hcs
      obtain ⟨rfl, rfl, rfl⟩ := hcs
      exact ⟨[], .inl ⟨rfl, rfl, rfl, rfl⟩⟩
    · simp [Value.cells] at hcs
      obtain ⟨rfl, rfl, rfl⟩ := hcs
      exact ⟨zs, .inr ⟨_, rfl, hl, hm, by simpa using hz, hcell, hwz⟩⟩
  obtain ⟨a1, rfl, rfl, rfl, w1⟩ := open_int Try.underlying2 (hval 1 2 v1 rfl rfl) h1
  obtain ⟨a2, rfl, rfl, rfl, w2⟩ := open_int Try.underlying5 (hval 2 5 v2 rfl rfl) h2
  clear hA0 hval0
  refine (walk a0 len0 cap0 z0 a1 a2 W w0 w1 w2).mono fun e W' ⟨he, bel⟩ => ?_
  subst he
  exact ⟨_, rfl, _, _, _, [], _, [], hW', trodAll_mk1 (shut_bool Try.underlying4 _), (trodAll_cons_mk (Below.trod laidOut (by kernel_rfl) (of_decide_eq_true (by kernel_rfl)) k0 bel lt0) (trodAll_cons_mk (shut_int Try.underlying2 w1) (trodAll_cons_mk (shut_int Try.underlying5 w2) trodAll_mk0))), rfl, bel.frame _, fun h => by cases h⟩

theorem over : Rows.fixMiddleRow.holds Try.pinned (OpenSpec.ofChange Rows.fixMiddleSpec) :=
  OpenClaim.holds_of_wide 8 Try.f8 rfl rfl rfl rfl rfl rfl rfl ⟨rfl, rfl, rfl, rfl, rfl⟩ rfl rfl rfl rfl rfl (by kernel_rfl) Try.func8 (by kernel_rfl)
    (of_decide_eq_true (by kernel_rfl)) (by unfold Func.isWrapper; first | (rw [if_pos (by decide +kernel)]; kernel_rfl) | (rw [if_neg (by decide +kernel)]; exact ⟨rfl, rfl⟩))
    (fun os started H enc _ => lifted os started H enc)

theorem proved : Rows.FixMiddleSaid := over
end Go.Proofs.Ytlnoclffgmcgoaa.FixMiddle
