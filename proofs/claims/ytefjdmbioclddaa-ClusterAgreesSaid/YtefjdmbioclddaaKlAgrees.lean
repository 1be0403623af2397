/- ClusterAgrees: nodes that say the same, and have any jitter, are all kept; of others, with no jitter at all, just as many as are asked for. No further condition. -/
import Derived.Test.YtefjdmbioclddaaCnZ
import Derived.Test.YtefjdmbioclddaaCnB
import Derived.WalkKit
import Derived.WalkSpells
import Derived.WalkLawsBesides
import Derived.Lib.Hide
import Derived.Handy
import Derived.ProofKit
import Derived.OpenShut
import Derived.ShutString
import Derived.ChangeOld
import Derived.Below
namespace Go.Proofs.Ytefjdmbioclddaa.ClusterAgrees
open Go.RowKit Go.Sort Go.Proofs.Ytefjdmbioclddaa.W
open Go.ChangeShapes Go.WideShapes Go.ChangeAt
open Go.ChangeMaps (open_string shut_string)
set_option linter.unusedVariables false
set_option linter.unusedSimpArgs false
theorem own : ownKnob Try.prog.godebug = none := by kernel_rfl
theorem laidOut : laidOutB Try.prog = true := by kernel_rfl
/-- Two slices in blocks of their own. -/
def Apa (u v : Value) : Prop := ∀ b, u.ownBlock = some b → v.ownBlock = some b → False
theorem apart_ne {u v : Value} (h : Apa u v) : v.ownBlock = none ∨ v.ownBlock ≠ u.ownBlock := by
  cases hv : v.ownBlock with
  | none => exact .inl rfl
  | some b => exact .inr fun e => h b e.symm hv
theorem apart_symm {u v : Value} (h : Apa u v) : Apa v u := fun b h1 h2 => h b h2 h1
theorem apart_left {u v u' : Value} {n H : Nat} (h : Apa u v) (ha : u'.ownBlock = u.ownBlock ∨ u'.ownBlock = some n) (hn : n = H) (hv : ∀ b, v.ownBlock = some b → b < H) : Apa u' v := fun b h1 h2 => by
  rcases ha with ha | ha
  · exact h b (ha.symm.trans h1) h2
  · have e : n = b := Option.some.inj (ha.symm.trans h1)
    have := hv b h2
    omega
theorem apart_new {u v : Value} {g n H cp : Nat} (h : Apa u v) (ha : u.ownBlock = some g ∨ g = H) (hv : ∀ b, v.ownBlock = some b → b < H) : Apa (.slice (some ⟨g, 0, none⟩) n cp) v := fun b h1 h2 => by
  have e : g = b := Option.some.inj h1
  rcases ha with ha | ha
  · exact h b (ha.trans (congrArg some e)) h2
  · have := hv b h2
    omega
set_option maxRecDepth 100000 in
set_option maxHeartbeats 12800000 in
theorem walk (offset many least jitter apart : Int) (w : World) (wo : (Lit.int .i64 offset).wf = true) (wm : (Lit.int .u8 many).wf = true) (wl : (Lit.int .u8 least).wf = true) (wj : (Lit.int .u16 jitter).wf = true) (wa : (Lit.int .u32 apart).wf = true) :
    Calls Try.prog 5 #[.int .i64 offset, .int .u8 many, .int .u8 least, .int .u16 jitter, .int .u32 apart] w fun e w' => e = .returned (.bool true) ∧ Below w.heap.size w w' := by
  have b0 := bounds_i64 wo
  have b1 := bounds_u8 wm
  have b2 := bounds_u8 wl
  have b3 := bounds_u16 wj
  have b4 := bounds_u32 wa
  obtain ⟨mn, rfl⟩ : ∃ mn : Nat, many = (mn : Int) := ⟨many.toNat, by omega⟩
  obtain ⟨ln, rfl⟩ : ∃ ln : Nat, least = (ln : Int) := ⟨least.toNat, by omega⟩
  clear wo wm wl wj wa
  obtain ⟨i0, hi0, hz0, hz1, hz2⟩ := info_parts info_nd
  have cs := shown17_any
  obtain ⟨n, hn⟩ : ∃ n, mn % 12 = n := ⟨_, rfl⟩
  obtain ⟨k, hk⟩ : ∃ k, ln % 12 = k := ⟨_, rfl⟩
  have hn10 : n ≤ 11 := by omega
  have hk10 : k ≤ 11 := by omega
  have r1 : Int.tmod (mn : Int) 12 = (n : Int) := by rw [← hn]; rfl
  have r2 : Int.tmod (ln : Int) 12 = (k : Int) := by rw [← hk]; rfl
  have w1 : IntKind.i64.wrap (mn : Int) = (mn : Int) := by rw [IntKind.wrap_i64]; omega
  have w2 : IntKind.i64.wrap (ln : Int) = (ln : Int) := by rw [IntKind.wrap_i64]; omega
  have w3 : IntKind.i64.wrap (n : Int) = (n : Int) := by rw [IntKind.wrap_i64]; omega
  have w4 : IntKind.i64.wrap (k : Int) = (k : Int) := by rw [IntKind.wrap_i64]; omega
  have w5 : IntKind.i64.wrap jitter = jitter := by rw [IntKind.wrap_i64]; omega
  have w6 : IntKind.i64.wrap (jitter + 1) = jitter + 1 := by rw [IntKind.wrap_i64]; omega
  have w7 : IntKind.i64.wrap apart = apart := by rw [IntKind.wrap_i64]; omega
  have w8 : IntKind.i64.wrap (apart + 1) = apart + 1 := by rw [IntKind.wrap_i64]; omega
  have bnd : ∀ i : Nat, i < 12 → 0 ≤ (i : Int) * (apart + 1) ∧ (i : Int) * (apart + 1) ≤ 51539607552 := fun i hi => by
    constructor
    · exact Int.mul_nonneg (by omega) (by omega)
    · exact Int.le_trans (Int.mul_le_mul (show (i : Int) ≤ 12 by omega) (show apart + 1 ≤ 4294967296 by omega) (by omega) (by omega)) (by decide)
  have T1 : ∀ c ∈ sameL offset (jitter + 1) n, c.Typed := fun c hc => by
    obtain ⟨i, hi, rfl⟩ := List.mem_map.1 hc
    have := List.mem_range.1 hi
    refine ⟨b0, ?_, ?_⟩ <;> (dsimp only; omega)
  have T2 : ∀ c ∈ rowL (apart + 1) n, c.Typed := fun c hc => by
    obtain ⟨i, hi, rfl⟩ := List.mem_map.1 hc
    have h9 := List.mem_range.1 hi
    have := bnd i (by omega)
    refine ⟨?_, by show (-9223372036854775808 : Int) ≤ 0 ∧ (0 : Int) ≤ 9223372036854775807; decide, ?_⟩ <;> (dsimp only; omega)
  have p1 := same_prune offset (jitter + 1) (by omega) n (k : Int)
  have p2 := prune_all (row_jit (apart + 1) n) (k : Int)
  rw [row_length] at p2
  obtain ⟨mx, hmx⟩ : ∃ mx : Int, max (k : Int) 1 = mx := ⟨_, rfl⟩
  obtain ⟨mi, hmi⟩ : ∃ mi : Int, min (n : Int) mx = mi := ⟨_, rfl⟩
  have f1 := fun ts t W => run_max17 (k : Int) 1 mx hmx ts t W
  have f2 := fun ts t W => run_min17 (n : Int) mx mi hmi ts t W
  rw [hmx, hmi] at p2
  have OO := Lib.hid (And.intro T1 (And.intro T2 (And.intro p1 p2)))
  have BND := Lib.hid bnd
  have ownS := ownsRow_fresh w 40 3 w.heap.size (Nat.le_refl _)
  have ownS' := ownS.alloc (.cells #[] 40)
  have ownT := ownsRow_fresh (w.alloc (.cells #[] 40)) 40 3 w.heap.size (by simp)
  have bS := ((Below.refl w.heap.size w).alloc (Nat.le_refl _) (.cells #[] 40)).alloc (by simp) (.cells #[] 40)
  have hap0 : Apa (.slice (some ⟨w.heap.size, 0, none⟩) 0 0) (.slice (some ⟨w.heap.size + 1, 0, none⟩) 0 0) := fun b h1 h2 => by
    simp [Value.ownBlock] at h1 h2
    omega
  rw [World.size_alloc] at ownT
  clear T1 T2 p1 p2 bnd hn hk hmx hmi ownS
  go_enter Try.func5, Try.ntmps5
  go_wp2_with fail
  go_loopw [12, 13, 14] (fun o p i wr => ∃ q : Nat, q ≤ n ∧ i = .int .i64 (q : Int) ∧ Apa o p ∧ wr.ownsRow w.heap.size 40 3 o (sameL offset (jitter + 1) q).length ((sameL offset (jitter + 1) q).flatMap ndC) ∧ wr.ownsRow w.heap.size 40 3 p (rowL (apart + 1) q).length ((rowL (apart + 1) q).flatMap ndC) ∧ Below w.heap.size w wr) (fun _ _ i _ => n - (intOf i).toNat)
  case atStart => exact ⟨0, Nat.zero_le _, rfl, hap0, ownS', ownT, bS⟩
  case round =>
    obtain ⟨q, hq, rfl, hap, own1, own2, hB⟩ := hrel
    clear ownS' ownT bS hap0
    have z1 := hB.size
    have h1 := same_length offset (jitter + 1) q
    have h2 := row_length (apart + 1) q
    have O1 := Lib.hid own1
    have O2 := Lib.hid own2
    rw [h1] at own1
    rw [h2] at own2
    by_cases hlt : q < n
    · have i1 : (q : Int) < n := by omega
      have bq := BND.out q (by omega)
      have w9 : IntKind.i64.wrap ((q : Int) * (apart + 1)) = (q : Int) * (apart + 1) := by rw [IntKind.wrap_i64]; omega
      have TK := Lib.hid (And.intro (same_step offset (jitter + 1) q) (row_step (apart + 1) q))
      clear h1 h2 O1 O2 bq
      go_wp2_with (first | (at_builtin; refine wpList_append_own_at _ rfl _ _ 22 rfl w.heap.size 40 i0 _ 3 24 Try.underlying22 hi0 hz0 hz1 hz2 rfl (by decide) _ _ _ rfl (own1.alloc _) ⟨wr.heap.size, 0, none⟩ 1 1 (ndC ⟨offset, jitter + 1, (q : Int)⟩) rfl rfl (nd_row _ ⟨offset, jitter + 1, (q : Int)⟩ _) (ndC_one _) (by unfold maxLen; omega) (by omega) (by simp; omega) ?_; intro v4 w4 hown4 hgrow4 _ hat4; have own4 : w4.ownsRow w.heap.size 40 3 v4 (sameL offset (jitter + 1) (q + 1)).length ((sameL offset (jitter + 1) (q + 1)).flatMap ndC) := (by rw [TK.out.1, List.flatMap_append, List.length_append, same_length]; simpa using hown4); have B4 := (hB.alloc z1 (.cells (ndA ⟨offset, jitter + 1, (q : Int)⟩) 40)).grown hgrow4 (by simp; omega) (fun g hg => (own1.lt g hg).1); have z4 := B4.size; have p4 := (own2.alloc (.cells (ndA ⟨offset, jitter + 1, (q : Int)⟩) 40)).kept hgrow4 (apart_ne hap); have ap4 := apart_left (H := wr.heap.size + 1) hap hat4 (by simp) (fun b hb => by have := (own2.lt b hb).2; omega)) | (at_builtin; refine wpList_append_own_at _ rfl _ _ 22 rfl w.heap.size 40 i0 _ 3 24 Try.underlying22 hi0 hz0 hz1 hz2 rfl (by decide) _ _ _ rfl (p4.alloc _) ⟨w4.heap.size, 0, none⟩ 1 1 (ndC ⟨(q : Int) * (apart + 1), 0, (q : Int)⟩) rfl rfl (nd_row _ ⟨(q : Int) * (apart + 1), 0, (q : Int)⟩ _) (ndC_one _) (by unfold maxLen; omega) (by omega) (by simp; omega) ?_; intro v5 w5 hown5 hgrow5 _ hat5; have own5 : w5.ownsRow w.heap.size 40 3 v5 (rowL (apart + 1) (q + 1)).length ((rowL (apart + 1) (q + 1)).flatMap ndC) := (by rw [TK.out.2, List.flatMap_append, List.length_append, row_length]; simpa using hown5); have B5 := (B4.alloc z4 (.cells (ndA ⟨(q : Int) * (apart + 1), 0, (q : Int)⟩) 40)).grown hgrow5 (by simp; omega) (fun g hg => (p4.lt g hg).1); have z5 := B5.size; have own4' := (own4.alloc (.cells (ndA ⟨(q : Int) * (apart + 1), 0, (q : Int)⟩) 40)).kept hgrow5 (apart_ne (apart_symm ap4)); have ap5 := apart_symm (apart_left (H := w4.heap.size + 1) (apart_symm ap4) hat5 (by simp) (fun b hb => by have := (own4.lt b hb).2; omega))))
      go_roundw
      case rel => exact ⟨q + 1, by omega, by go_num, ap5, own4', own5, B5⟩
      case measure => simp [intOf]; omega
    · have eq : q = n := by omega
      subst eq
      generalize wr = wo at *
      have hT := SlAt.own ndC_length O1.out
      have hU := SlAt.own ndC_length O2.out
      obtain ⟨tx, tc, rfl⟩ := hT.slice
      obtain ⟨ux, uc, rfl⟩ := hU.slice
      rw [h1] at hT ⊢
      rw [h2] at hU ⊢
      obtain ⟨T1, T2, p1, p2⟩ := OO.out
      have XP := fun W (h : Below wo.heap.size wo W) => cprn_any (sameL offset (jitter + 1) q) T1 (by rw [h1]; omega) (k : Int) (by omega) W (hT.kept (fun b hb => h.block b hb.2)) (fun b hb => Nat.lt_of_lt_of_le hb.2 h.size)
      have XQ := fun W (h : Below wo.heap.size wo W) => cprn_any (rowL (apart + 1) q) T2 (by rw [h2]; omega) (k : Int) (by omega) W (hU.kept (fun b hb => h.block b hb.2)) (fun b hb => Nat.lt_of_lt_of_le hb.2 h.size)
      rw [p1] at XP
      generalize (prune (rowL (apart + 1) q) (k : Int)).2 = pf at *
      generalize (prune (rowL (apart + 1) q) (k : Int)).1 = P at *
      have XP' : Hid (∀ W, Below wo.heap.size wo W → Calls Try.prog 12 #[.slice tx q tc, .int .i64 (k : Int)] W fun e w' => ∃ u, e = .returned (.tuple #[u, .int .i64 0]) ∧ SlAt (fun b => W.heap.size ≤ b ∧ b < w'.heap.size) 1 plE w' u (List.range q) ∧ Below W.heap.size W w') := Lib.hid XP
      have XQ' := Lib.hid XQ
      have BR := Below.refl wo.heap.size wo
      have BW := hB
      have hpe : ((P.length : Int) == mi) = true := beq_iff_eq.2 p2
      clear XP XQ hT hU own1 own2 hB h1 h2 O1 O2 T1 T2 p1 OO hap
      have kk := XP'.out _ BR
      go_wp2_with fail
      (with_reducible refine kk.mono ?_)
      rintro e w3 ⟨u, rfl, hu, hb⟩
      obtain ⟨vx, vc, rfl⟩ := hu.slice
      rw [List.length_range]
      replace BR := BR.trans (hb.mono BR.size)
      replace BW := BW.trans (hb.mono BW.size)
      clear hb kk hu
      have kk := XQ'.out _ BR
      go_wp2_with fail
      (with_reducible refine kk.mono ?_)
      rintro e w4 ⟨u, rfl, hu, hb⟩
      obtain ⟨yx, yc, rfl⟩ := hu.slice
      have HBW := Lib.hid (BW.trans (hb.mono BW.size))
      clear hb kk hu BR BW
      go_wp2_with fail
      (with_reducible refine (cs _).mono ?_)
      rintro e w9 ⟨rfl, hb9⟩
      have HB9 := Lib.hid (HBW.out.trans (hb9.mono HBW.out.size))
      clear hb9
      go_wp2_with fail
      go_ret
      exact ⟨by first | rfl | (simp; done) | (simp; omega), HB9.out⟩
set_option maxRecDepth 100000 in
theorem lifted (os : Os) (started : os.Started) (H : Type) (enc : TypeId × Value → H) :
    ReturnsInHanded {} Try.checked os 5 .any (Rows.clusterAgreesSpec.pre6 enc Try.prog Try.f5 Rows.clusterAgreesRow.domain false) (Rows.clusterAgreesSpec.post enc Try.prog Try.f5 false true false false) := by
  refine returnsInHanded_of_change (C := Try.checked) own started (by kernel_rfl) Try.func5
    (ChangeSpec.witness6 (enc := enc) (C := Try.checked) false ⟨#[], #[.int .i64 0, .int .u8 0, .int .u8 0, .int .u16 0, .int .u32 0], []⟩ 8 (by kernel_rfl) (by kernel_rfl) (by kernel_rfl) (by kernel_rfl)) ?_
  intro W base args ds gs before hval0 hW hcnd _
  have hval : ∀ (j : Nat) t v, Try.f5.params[j]? = some t → args[j]? = some v → Value.okWide Try.prog W .any base t v := hval0
  have hW' := hW
  obtain ⟨p, q, hA0, hV, rfl, hfz, hnd⟩ := hW
  have hA : DataW.TrodAll enc Try.prog W 0 (fun _ => true) true Try.f5.params.toList args.toList ds p := hA0
  rw [Try.params5] at hA hval
  obtain ⟨v0, vs0, d0, ds0, p0, q0, hargs, rfl, rfl, h0, r0⟩ := trodAll_cons hA
  obtain ⟨v1, vs1, d1, ds1, p1, q1, rfl, rfl, rfl, h1, r1⟩ := trodAll_cons r0
  obtain ⟨v2, vs2, d2, ds2, p2, q2, rfl, rfl, rfl, h2, r2⟩ := trodAll_cons r1
  obtain ⟨v3, vs3, d3, ds3, p3, q3, rfl, rfl, rfl, h3, r3⟩ := trodAll_cons r2
  obtain ⟨v4, vs4, d4, ds4, p4, q4, rfl, rfl, rfl, h4, r4⟩ := trodAll_cons r3
  obtain ⟨rfl, rfl, rfl⟩ := trodAll_nil r4
  obtain rfl : args = #[v0, v1, v2, v3, v4] := by cases args; simp_all
  obtain ⟨rfl, rfl⟩ := trodVars_none hV
  obtain ⟨a0, rfl, rfl, rfl, w0⟩ := open_int Try.underlying2 (hval 0 2 v0 rfl rfl) h0
  obtain ⟨a1, rfl, rfl, rfl, w1⟩ := open_int Try.underlying5 (hval 1 5 v1 rfl rfl) h1
  obtain ⟨a2, rfl, rfl, rfl, w2⟩ := open_int Try.underlying5 (hval 2 5 v2 rfl rfl) h2
  obtain ⟨a3, rfl, rfl, rfl, w3⟩ := open_int Try.underlying42 (hval 3 42 v3 rfl rfl) h3
  obtain ⟨a4, rfl, rfl, rfl, w4⟩ := open_int Try.underlying43 (hval 4 43 v4 rfl rfl) h4
  clear hA0 hval0
  refine (walk a0 a1 a2 a3 a4 W w0 w1 w2 w3 w4).mono fun e W' ⟨he, bel⟩ => ?_
  subst he
  exact ⟨_, rfl, _, _, _, [], _, [], hW', trodAll_mk1 (shut_bool Try.underlying4 _), (trodAll_cons_mk (shut_int Try.underlying2 w0) (trodAll_cons_mk (shut_int Try.underlying5 w1) (trodAll_cons_mk (shut_int Try.underlying5 w2) (trodAll_cons_mk (shut_int Try.underlying42 w3) (trodAll_cons_mk (shut_int Try.underlying43 w4) trodAll_mk0))))), rfl, bel.frame _, fun h => by cases h⟩

theorem over : Rows.clusterAgreesRow.holds Try.pinned (OpenSpec.ofChange Rows.clusterAgreesSpec) :=
  OpenClaim.holds_of_wide 5 Try.f5 rfl rfl rfl rfl rfl rfl rfl ⟨rfl, rfl, rfl, rfl, rfl⟩ rfl rfl rfl rfl rfl (by kernel_rfl) Try.func5 (by kernel_rfl)
    (of_decide_eq_true (by kernel_rfl)) (by unfold Func.isWrapper; first | (rw [if_pos (by decide +kernel)]; kernel_rfl) | (rw [if_neg (by decide +kernel)]; exact ⟨rfl, rfl⟩))
    (fun os started H enc _ => lifted os started H enc)

theorem proved : Rows.ClusterAgreesSaid := over
end Go.Proofs.Ytefjdmbioclddaa.ClusterAgrees
