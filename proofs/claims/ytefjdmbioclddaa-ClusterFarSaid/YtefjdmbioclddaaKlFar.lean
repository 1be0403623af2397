/- ClusterFar: one node that is far from all others, which say the same, is the worst one, wherever it stands. No further condition. -/
import Derived.Test.YtefjdmbioclddaaCnZ
import Derived.Test.YtefjdmbioclddaaCnB
import Derived.WalkKit
import Derived.WalkSpells
import Derived.WalkLawsBesides
import Derived.Lib.Hide
import Derived.Handy
import Derived.ProofKit
import Derived.OpenShut
import Derived.ShutString
import Derived.ChangeOld
import Derived.Below
namespace Go.Proofs.Ytefjdmbioclddaa.ClusterFar
open Go.RowKit Go.Sort Go.Proofs.Ytefjdmbioclddaa.W
open Go.ChangeShapes Go.WideShapes Go.ChangeAt
open Go.ChangeMaps (open_string shut_string)
set_option linter.unusedVariables false
set_option linter.unusedSimpArgs false
theorem own : ownKnob Try.prog.godebug = none := by kernel_rfl
theorem laidOut : laidOutB Try.prog = true := by kernel_rfl
set_option maxRecDepth 100000 in
set_option maxHeartbeats 12800000 in
theorem walk (many at_ far : Int) (w : World) (wm : (Lit.int .u8 many).wf = true) (wa : (Lit.int .u8 at_).wf = true) (wf : (Lit.int .u32 far).wf = true) :
    Calls Try.prog 7 #[.int .u8 many, .int .u8 at_, .int .u32 far] w fun e w' => e = .returned (.bool true) ∧ Below w.heap.size w w' := by
  have b1 := bounds_u8 wm
  have b2 := bounds_u8 wa
  have b3 := bounds_u32 wf
  obtain ⟨mn, rfl⟩ : ∃ mn : Nat, many = (mn : Int) := ⟨many.toNat, by omega⟩
  obtain ⟨an, rfl⟩ : ∃ an : Nat, at_ = (an : Int) := ⟨at_.toNat, by omega⟩
  clear wm wa wf
  obtain ⟨i0, hi0, hz0, hz1, hz2⟩ := info_parts info_nd
  have cs := shown17_any
  obtain ⟨m8, hm8⟩ : ∃ m8, mn % 8 = m8 := ⟨_, rfl⟩
  obtain ⟨n, hn⟩ : ∃ n, 3 + m8 = n := ⟨_, rfl⟩
  obtain ⟨k, hk⟩ : ∃ k, an % n = k := ⟨_, rfl⟩
  have hkn : k < n := by rw [← hk]; exact Nat.mod_lt _ (by omega)
  have r1 : Int.tmod (mn : Int) 8 = (m8 : Int) := by rw [← hm8]; rfl
  have r2 : Int.tmod (an : Int) (n : Int) = (k : Int) := by rw [← hk]; rfl
  have w1 : IntKind.i64.wrap (mn : Int) = (mn : Int) := by rw [IntKind.wrap_i64]; omega
  have w2 : IntKind.i64.wrap (an : Int) = (an : Int) := by rw [IntKind.wrap_i64]; omega
  have w3 : IntKind.i64.wrap (m8 : Int) = (m8 : Int) := by rw [IntKind.wrap_i64]; omega
  have w4 : IntKind.i64.wrap (3 + (m8 : Int)) = (n : Int) := by rw [IntKind.wrap_i64]; omega
  have w5 : IntKind.i64.wrap (k : Int) = (k : Int) := by rw [IntKind.wrap_i64]; omega
  have w6 : IntKind.i64.wrap far = far := by rw [IntKind.wrap_i64]; omega
  have w7 : IntKind.i64.wrap (far + 1) = far + 1 := by rw [IntKind.wrap_i64]; omega
  have w9 : IntKind.i64.wrap ((n : Int) - 1) = (n : Int) - 1 := by rw [IntKind.wrap_i64]; omega
  have hn0 : ¬ (n : Int) = 0 := by omega
  have hn10 : n ≤ 10 := by omega
  obtain ⟨F, hF⟩ : ∃ F, (far + 1) * 16777216 = F := ⟨_, rfl⟩
  have hFb : 16777216 ≤ F ∧ F ≤ 9223372036854775807 := by omega
  have w8 : IntKind.i64.wrap ((far + 1) * 16777216) = F := by rw [IntKind.wrap_i64]; omega
  obtain ⟨o1, o2⟩ := one_worst hFb hkn (by omega)
  obtain ⟨o3, o4⟩ := one_prune hFb hkn (by omega)
  have tL : ∀ c ∈ oneL F k n, c.Typed := fun c hc => by
    obtain ⟨i, _, rfl⟩ := List.mem_map.1 hc
    refine ⟨?_, by show (-9223372036854775808 : Int) ≤ 0 ∧ (0 : Int) ≤ 9223372036854775807; decide, by show (-9223372036854775808 : Int) ≤ 5 ∧ (5 : Int) ≤ 9223372036854775807; decide⟩
    show -9223372036854775808 ≤ (if i = k then F else 0) ∧ (if i = k then F else 0) ≤ 9223372036854775807
    split <;> omega
  have OO := Lib.hid (And.intro tL (And.intro o1 (And.intro o3 o4)))
  generalize rootI (mulI F F) = R at *
  have ownS := ownsRow_fresh w 40 3 w.heap.size (Nat.le_refl _)
  have bS := (Below.refl w.heap.size w).alloc (Nat.le_refl _) (.cells #[] 40)
  clear tL o1 o3 o4 hm8 hk
  go_enter Try.func7, Try.ntmps7
  go_wp2_with fail
  go_loopw [9, 10] (fun o i wr => ∃ q : Nat, q ≤ n ∧ i = .int .i64 (q : Int) ∧ wr.ownsRow w.heap.size 40 3 o (oneL F k q).length ((oneL F k q).flatMap ndC) ∧ Below w.heap.size w wr) (fun _ i _ => n - (intOf i).toNat)
  case atStart => exact ⟨0, Nat.zero_le _, rfl, ownS, bS⟩
  case round =>
    obtain ⟨q, hq, rfl, own, hB⟩ := hrel
    clear ownS bS
    have z1 := hB.size
    have hrl := one_length F k q
    have OL := Lib.hid own
    rw [hrl] at own
    by_cases hlt : q < n
    · have i1 : (q : Int) < n := by omega
      have hst := one_step F k q
      by_cases hqk : q = k
      · have e1 : ((q : Int) == (k : Int)) = true := beq_iff_eq.2 (by omega)
        rw [if_pos hqk] at hst
        have TK := Lib.hid hst
        clear hst hrl hqk
        go_wp2_with (at_builtin; refine wpList_append_own _ rfl _ _ 22 rfl w.heap.size 40 i0 _ 3 24 Try.underlying22 hi0 hz0 hz1 hz2 rfl (by decide) _ _ _ rfl ((own.alloc _).alloc _) ⟨wr.heap.size + 1, 0, none⟩ 1 1 (ndC ⟨F, 0, 5⟩) rfl rfl (nd_row' (World.size_alloc _ _) ⟨F, 0, 5⟩ _) (ndC_one _) (by unfold maxLen; omega) (by omega) (by simp; omega) ?_; intro v4 w4 hown4 hgrow4 _; have own4 : w4.ownsRow w.heap.size 40 3 v4 (oneL F k (q + 1)).length ((oneL F k (q + 1)).flatMap ndC) := (by rw [TK.out, List.flatMap_append, List.length_append, one_length]; simpa using hown4); have B4 := ((hB.alloc z1 (.cells (ndA ⟨F, 0, 5⟩) 40)).alloc (by simp; omega) (.cells (ndA ⟨F, 0, 5⟩) 40)).grown hgrow4 (by simp; omega) (fun g hg => (own.lt g hg).1); have z4 := B4.size)
        go_roundw
        case rel => exact ⟨q + 1, by omega, by go_num, own4, B4⟩
        case measure => simp [intOf]; omega
      · have e1 : ((q : Int) == (k : Int)) = false := beq_eq_false_iff_ne.2 (by omega)
        rw [if_neg hqk] at hst
        have TK := Lib.hid hst
        clear hst hrl hqk
        go_wp2_with (at_builtin; refine wpList_append_own _ rfl _ _ 22 rfl w.heap.size 40 i0 _ 3 24 Try.underlying22 hi0 hz0 hz1 hz2 rfl (by decide) _ _ _ rfl ((own.alloc _).alloc _) ⟨wr.heap.size + 1, 0, none⟩ 1 1 (ndC ⟨0, 0, 5⟩) rfl rfl (nd_row' (World.size_alloc _ _) ⟨0, 0, 5⟩ _) (ndC_one _) (by unfold maxLen; omega) (by omega) (by simp; omega) ?_; intro v4 w4 hown4 hgrow4 _; have own4 : w4.ownsRow w.heap.size 40 3 v4 (oneL F k (q + 1)).length ((oneL F k (q + 1)).flatMap ndC) := (by rw [TK.out, List.flatMap_append, List.length_append, one_length]; simpa using hown4); have B4 := ((hB.alloc z1 (.cells (ndA ⟨0, 0, 5⟩) 40)).alloc (by simp; omega) (.cells (ndA ⟨0, 0, 5⟩) 40)).grown hgrow4 (by simp; omega) (fun g hg => (own.lt g hg).1); have z4 := B4.size)
        go_roundw
        case rel => exact ⟨q + 1, by omega, by go_num, own4, B4⟩
        case measure => simp [intOf]; omega
    · have eq : q = n := by omega
      subst eq
      generalize wr = wo at *
      have hT := SlAt.own ndC_length OL.out
      obtain ⟨tx, tc, rfl⟩ := hT.slice
      rw [hrl] at hT ⊢
      obtain ⟨tL, o1, o3, o4⟩ := OO.out
      have XW := fun W (h : Below wo.heap.size wo W) => cwst_any (oneL F k q) tL (by rw [hrl]; omega) W (hT.kept (fun b hb => h.block b hb.2)) (fun b hb => Nat.lt_of_lt_of_le hb.2 h.size)
      have XP := fun W (h : Below wo.heap.size wo W) => cprn_any (oneL F k q) tL (by rw [hrl]; omega) ((q : Int) - 1) (by omega) W (hT.kept (fun b hb => h.block b hb.2)) (fun b hb => Nat.lt_of_lt_of_le hb.2 h.size)
      rw [o1] at XW
      have hP1 : ((prune (oneL F k q) ((q : Int) - 1)).1.length : Int) = (q : Int) - 1 := by omega
      generalize (prune (oneL F k q) ((q : Int) - 1)).2 = pf at *
      generalize (prune (oneL F k q) ((q : Int) - 1)).1 = P at *
      have XW' : Hid (∀ W, Below wo.heap.size wo W → Calls Try.prog 10 #[.slice tx q tc] W fun e w' => e = .returned (.tuple #[.int .i64 (k : Int), .int .i64 R]) ∧ Below W.heap.size W w') := Lib.hid XW
      have HXP := Lib.hid XP
      have O4 := Lib.hid o4
      have BR := Below.refl wo.heap.size wo
      have BW := hB
      clear XW XP hT own hB hrl OL tL o1 o4 OO
      have kk := XW'.out _ BR
      go_wp2_with fail
      (with_reducible refine kk.mono ?_)
      rintro e w3 ⟨rfl, hb⟩
      replace BR := BR.trans (hb.mono BR.size)
      replace BW := BW.trans (hb.mono BW.size)
      clear hb kk
      have kk := HXP.out _ BR
      go_wp2_with fail
      (with_reducible refine kk.mono ?_)
      rintro e w4 ⟨u, rfl, hu, hb⟩
      replace BW := BW.trans (hb.mono BW.size)
      have HU := Lib.hid hu
      obtain ⟨ux, uc, rfl⟩ := hu.slice
      have HBW := Lib.hid BW
      have hR := Below.refl w4.heap.size w4
      clear hb kk hu BR BW
      go_wp2_with fail
      go_loopw [16, 17] (fun g i wr => ∃ j : Nat, j ≤ P.length ∧ i = .int .i64 (j : Int) ∧ g = .bool true ∧ Below w4.heap.size w4 wr) (fun _ i _ => P.length - (intOf i).toNat)
      case atStart => exact ⟨0, Nat.zero_le _, rfl, rfl, hR⟩
      case round =>
        obtain ⟨j, hj, rfl, rfl, hB⟩ := hrel
        clear hR
        by_cases hlj : j < P.length
        · obtain ⟨x, hx⟩ : ∃ x, P[j]? = some x := ⟨_, List.getElem?_eq_getElem hlj⟩
          have hxk : x ≠ k := fun e => O4.out (by rw [← e]; exact List.mem_of_getElem? hx)
          have i1 : (j : Int) < P.length := by omega
          have i0' : (0 : Int) ≤ (j : Int) := by omega
          obtain ⟨bu, ou, rfl⟩ := pl_some HU.out hx
          obtain ⟨c1, f1⟩ := pl_cell HU.out hx
          have fx : wr.cell? ⟨bu, ou + j, none⟩ = some (.int .i64 (x : Int)) := by rw [hB.cell f1.2]; exact c1
          have e1 : ((x : Int) != (k : Int)) = true := bne_iff_ne.2 (by omega)
          have hBB := Lib.hid hB
          clear c1 f1 hx hB
          go_wp2_with fail
          go_roundw
          case rel => exact ⟨j + 1, by omega, by go_num, by first | rfl | simp | (simp; omega), hBB.out⟩
          case measure => simp [intOf]; omega
        · have eq : j = P.length := by omega
          subst eq
          have HB := Lib.hid (HBW.out.trans (hB.mono HBW.out.size))
          clear hB
          go_wp2_with fail
          (with_reducible refine (cs _).mono ?_)
          rintro e w9 ⟨rfl, hb9⟩
          have HB9 := Lib.hid (HB.out.trans (hb9.mono HB.out.size))
          clear hb9
          go_wp2_with fail
          go_ret
          exact ⟨by first | rfl | (simp; done) | (simp; omega), HB9.out⟩
set_option maxRecDepth 100000 in
theorem lifted (os : Os) (started : os.Started) (H : Type) (enc : TypeId × Value → H) :
    ReturnsInHanded {} Try.checked os 7 .any (Rows.clusterFarSpec.pre6 enc Try.prog Try.f7 Rows.clusterFarRow.domain false) (Rows.clusterFarSpec.post enc Try.prog Try.f7 false true false false) := by
  refine returnsInHanded_of_change (C := Try.checked) own started (by kernel_rfl) Try.func7
    (ChangeSpec.witness6 (enc := enc) (C := Try.checked) false ⟨#[], #[.int .u8 0, .int .u8 0, .int .u32 0], []⟩ 8 (by kernel_rfl) (by kernel_rfl) (by kernel_rfl) (by kernel_rfl)) ?_
  intro W base args ds gs before hval0 hW hcnd _
  have hval : ∀ (j : Nat) t v, Try.f7.params[j]? = some t → args[j]? = some v → Value.okWide Try.prog W .any base t v := hval0
  have hW' := hW
  obtain ⟨p, q, hA0, hV, rfl, hfz, hnd⟩ := hW
  have hA : DataW.TrodAll enc Try.prog W 0 (fun _ => true) true Try.f7.params.toList args.toList ds p := hA0
  rw [Try.params7] at hA hval
  obtain ⟨v0, vs0, d0, ds0, p0, q0, hargs, rfl, rfl, h0, r0⟩ := trodAll_cons hA
  obtain ⟨v1, vs1, d1, ds1, p1, q1, rfl, rfl, rfl, h1, r1⟩ := trodAll_cons r0
  obtain ⟨v2, vs2, d2, ds2, p2, q2, rfl, rfl, rfl, h2, r2⟩ := trodAll_cons r1
  obtain ⟨rfl, rfl, rfl⟩ := trodAll_nil r2
  obtain rfl : args = #[v0, v1, v2] := by cases args; simp_all
  obtain ⟨rfl, rfl⟩ := trodVars_none hV
  obtain ⟨a0, rfl, rfl, rfl, w0⟩ := open_int Try.underlying5 (hval 0 5 v0 rfl rfl) h0
  obtain ⟨a1, rfl, rfl, rfl, w1⟩ := open_int Try.underlying5 (hval 1 5 v1 rfl rfl) h1
  obtain ⟨a2, rfl, rfl, rfl, w2⟩ := open_int Try.underlying43 (hval 2 43 v2 rfl rfl) h2
  clear hA0 hval0
  refine (walk a0 a1 a2 W w0 w1 w2).mono fun e W' ⟨he, bel⟩ => ?_
  subst he
  exact ⟨_, rfl, _, _, _, [], _, [], hW', trodAll_mk1 (shut_bool Try.underlying4 _), (trodAll_cons_mk (shut_int Try.underlying5 w0) (trodAll_cons_mk (shut_int Try.underlying5 w1) (trodAll_cons_mk (shut_int Try.underlying43 w2) trodAll_mk0))), rfl, bel.frame _, fun h => by cases h⟩

theorem over : Rows.clusterFarRow.holds Try.pinned (OpenSpec.ofChange Rows.clusterFarSpec) :=
  OpenClaim.holds_of_wide 7 Try.f7 rfl rfl rfl rfl rfl rfl rfl ⟨rfl, rfl, rfl, rfl, rfl⟩ rfl rfl rfl rfl rfl (by kernel_rfl) Try.func7 (by kernel_rfl)
    (of_decide_eq_true (by kernel_rfl)) (by unfold Func.isWrapper; first | (rw [if_pos (by decide +kernel)]; kernel_rfl) | (rw [if_neg (by decide +kernel)]; exact ⟨rfl, rfl⟩))
    (fun os started H enc _ => lifted os started H enc)

theorem proved : Rows.ClusterFarSaid := over
end Go.Proofs.Ytefjdmbioclddaa.ClusterFar
