/- CombineWithin: what is told together lies in the span, if that is one; of offsets that are all the same, and in it, it is no further from that one than a 2^-32 second. Bound of DOC.md. -/
import Derived.Test.YtekdablolacgfaaCqZ
import Derived.Test.YtekdablolacgfaaRowS
import Derived.Test.YtekdablolacgfaaApA
import Derived.Test.YtekdablolacgfaaPlA
import Derived.Deep.AppendLies
import Derived.Deep.SlicePairs
import Derived.WalkKit
import Derived.WalkSpells
import Derived.WalkLawsBesides
import Derived.Lib.Hide
import Derived.Handy
import Derived.ProofKit
import Derived.OpenShut
import Derived.ShutString
import Derived.ChangeOld
import Derived.Below
namespace Go.Proofs.Ytekdablolacgfaa.CombineWithin
open Go.Proofs.Ytekdablolacgfaa.W
open Go.ChangeShapes Go.WideShapes Go.ChangeAt Go.RowKit
open Go.ChangeMaps (open_string shut_string)
set_option linter.unusedVariables false
theorem own : ownKnob Try.prog.godebug = none := by kernel_rfl
theorem laidOut : laidOutB Try.prog = true := by kernel_rfl
open Go.Sort
set_option linter.unusedSimpArgs false
theorem run_max3 (k : IntKind) (a b c m : Int) (h : max (max a b) c = m) (ts : Array TypeId) (t : TypeId) (w : World) : (Builtin.max_ ts t #[.int k a, .int k b, .int k c]).run Try.prog w = .ok (.int k m) w := by
  subst h
  by_cases h1 : a < b
  · rw [show max a b = b by omega]
    by_cases h2 : b < c
    · rw [show max b c = c by omega]
      simp [Builtin.max_, Builtin.max2, h1, h2]
    · rw [show max b c = b by omega]
      simp [Builtin.max_, Builtin.max2, h1, h2]
  · rw [show max a b = a by omega]
    by_cases h2 : a < c
    · rw [show max a c = c by omega]
      simp [Builtin.max_, Builtin.max2, h1, h2]
    · rw [show max a c = a by omega]
      simp [Builtin.max_, Builtin.max2, h1, h2]
theorem info_i64_18 : (Try.prog.info? 2).map (fun i => (i.zero, i.size, i.bytes)) = some (some (.int .i64 0), 1, 8) := by kernel_rfl
theorem clamp_in (a lo hi : Int) (h : lo ≤ hi) (l0 : -9223372036854775807 ≤ lo) (h0 : hi ≤ 9223372036854775807) : lo ≤ clampI a lo hi ∧ clampI a lo hi ≤ hi := by
  unfold clampI cutI
  split
  · omega
  · split <;> omega
/-- As many of one number; distances in steps. -/
def samL (s : Int) (q : Nat) : List Int := List.replicate q s
def stpL (q : Nat) : List Int := (List.range q).map fun i : Nat => (i : Int) * 21474836
theorem sam_step (s : Int) (q : Nat) : samL s (q + 1) = samL s q ++ [s] := by unfold samL; rw [List.replicate_succ']
theorem stp_step (q : Nat) : stpL (q + 1) = stpL q ++ [(q : Int) * 21474836] := by unfold stpL; rw [List.range_succ, List.map_append]; rfl
theorem sam_length (s : Int) (q : Nat) : (samL s q).length = q := by simp [samL]
theorem stp_length (q : Nat) : (stpL q).length = q := by simp [stpL]
theorem sam_mean (s : Int) (h1 : -2147483648 ≤ s) (h2 : s ≤ 2147483647) (n : Nat) (h0 : 0 < n) (hn : n ≤ 20) : s - 1 ≤ meanC (samL s n) (stpL n) (-1099511627776) 1099511627776 ∧ meanC (samL s n) (stpL n) (-1099511627776) 1099511627776 ≤ s := by
  have hd : ∀ i, (stpL n).getD i 0 ≤ 4294967296 := fun i => by
    by_cases hi : i < n
    · have : (stpL n).getD i 0 = (i : Int) * 21474836 := by simp [stpL, List.getD, hi]
      rw [this]
      omega
    · have : (stpL n).getD i 0 = 0 := by simp [stpL, List.getD, hi]
      rw [this]
      decide
  have ho : ∀ i, i < n → (samL s n).getD i 0 = s := fun i hi => by simp [samL, List.getD, hi]
  have ho' : ∀ i, -2147483648 ≤ (samL s n).getD i 0 ∧ (samL s n).getD i 0 ≤ 2147483647 := fun i => by
    by_cases hi : i < n
    · rw [ho i hi]; omega
    · have : (samL s n).getD i 0 = 0 := by simp [samL, List.getD, hi]
      rw [this]
      decide
  have := same_mean s h1 h2 (samL s n) (stpL n) n ho ho' hd (by omega) h0
  unfold meanC lenC
  rw [sam_length, stp_length, Nat.min_self]
  generalize divI (sumO (samL s n) (stpL n) n) (sumW (stpL n) n) = q at *
  unfold clampI cutI
  rw [if_neg (by omega), if_neg (by omega)]
  omega
theorem sam_typed (s : Int) (h1 : -2147483648 ≤ s) (h2 : s ≤ 2147483647) (q : Nat) : ∀ x ∈ samL s q, -9223372036854775808 ≤ x ∧ x ≤ 9223372036854775807 := fun x hx => by
  rw [List.eq_of_mem_replicate hx]
  omega
theorem stp_typed (q : Nat) (hq : q ≤ 20) : ∀ x ∈ stpL q, -9223372036854775808 ≤ x ∧ x ≤ 9223372036854775807 := fun x hx => by
  obtain ⟨i, hi, rfl⟩ := List.mem_map.1 hx
  have := List.mem_range.1 hi
  omega
set_option maxRecDepth 100000 in
set_option maxHeartbeats 25600000 in
theorem walk (a0 : Option Addr) (len0 cap0 : Nat) (zs : List Int) (a1 : Option Addr) (len1 cap1 : Nat) (ys : List Int) (a b same n : Int) (w : World) (iw : IsRow .i64 w a0 len0 cap0 zs) (jw : IsRow .i64 w a1 len1 cap1 ys) (wa : (Lit.int .i64 a).wf = true) (wb : (Lit.int .i64 b).wf = true) (ws : (Lit.int .i32 same).wf = true) (wn : (Lit.int .u8 n).wf = true) :
    Calls Try.prog 5 #[.slice a0 len0 cap0, .slice a1 len1 cap1, .int .i64 a, .int .i64 b, .int .i32 same, .int .u8 n] w fun e w' => e = .returned (.bool true) ∧ Below w.heap.size w w' := by
  have ba := bounds_i64 wa
  have bb := bounds_i64 wb
  have bs := bounds_i32 ws
  have bn := bounds_u8 wn
  clear wa wb ws wn
  obtain ⟨o, ho, to_, so⟩ := iw.sl
  obtain ⟨d, hd, td, sd⟩ := jw.sl
  clear iw jw
  subst ho hd
  have cs := shown18_any
  by_cases g1 : 60 < o.length
  · have i1 : (60 : Int) < o.length := by omega
    go_enter Try.func5, Try.ntmps5
    go_wp2_with fail
    (with_reducible refine (cs _).mono ?_)
    rintro e w1 ⟨rfl, B1⟩
    have BB := Lib.hid B1
    clear B1
    go_wp2_with fail
    go_ret
    exact ⟨rfl, BB.out⟩
  have i1 : ¬ (60 : Int) < o.length := by omega
  by_cases g2 : 60 < d.length
  · have i2 : (60 : Int) < d.length := by omega
    go_enter Try.func5, Try.ntmps5
    go_wp2_with fail
    (with_reducible refine (cs _).mono ?_)
    rintro e w1 ⟨rfl, B1⟩
    have BB := Lib.hid B1
    clear B1
    go_wp2_with fail
    go_ret
    exact ⟨rfl, BB.out⟩
  have i2 : ¬ (60 : Int) < d.length := by omega
  obtain ⟨mn, hmn⟩ : ∃ mn, min a b = mn := ⟨_, rfl⟩
  obtain ⟨lo, hlo⟩ : ∃ lo, max mn (-9223372036854775807) = lo := ⟨_, rfl⟩
  obtain ⟨hi, hhi⟩ : ∃ hi, max (max a b) (-9223372036854775807) = hi := ⟨_, rfl⟩
  have hlh : lo ≤ hi ∧ -9223372036854775807 ≤ lo ∧ hi ≤ 9223372036854775807 := by omega
  have f1 := fun ts t W => run_min18 .i64 a b mn hmn ts t W
  have f2 := fun ts t W => run_max18 .i64 mn (-9223372036854775807) lo hlo ts t W
  have f3 := fun ts t W => run_max3 .i64 a b (-9223372036854775807) hi hhi ts t W
  have hcl := clamp_in (divI (sumO o d (lenC o d)) (sumW d (lenC o d))) lo hi hlh.1 hlh.2.1 hlh.2.2
  have hcm : meanC o d lo hi = clampI (divI (sumO o d (lenC o d)) (sumW d (lenC o d))) lo hi := rfl
  rw [← hcm] at hcl
  obtain ⟨nn, rfl⟩ : ∃ nn : Nat, n = (nn : Int) := ⟨n.toNat, by omega⟩
  obtain ⟨r, hr⟩ : ∃ r, nn % 20 = r := ⟨_, rfl⟩
  have r1 : Int.tmod (nn : Int) 20 = (r : Int) := by rw [← hr]; rfl
  have hr20 : r < 20 := by omega
  have v1 : IntKind.i64.wrap (nn : Int) = (nn : Int) := by rw [IntKind.wrap_i64]; omega
  have v2 : IntKind.i64.wrap (r : Int) = (r : Int) := by rw [IntKind.wrap_i64]; omega
  have v3 : IntKind.i64.wrap ((r : Int) + 1) = (r : Int) + 1 := by rw [IntKind.wrap_i64]; omega
  have v4 : IntKind.i64.wrap same = same := by rw [IntKind.wrap_i64]; omega
  have v5 : IntKind.i64.wrap (same - 1) = same - 1 := by rw [IntKind.wrap_i64]; omega
  have hsm := sam_mean same bs.1 bs.2 (r + 1) (by omega) (by omega)
  have c1 := fun W so' sd' => cmean_any o d (by omega) (by omega) (fun x hx => i64_bounds (to_ x hx)) (fun x hx => i64_bounds (td x hx)) lo hi (by omega) (by omega) (F := fun b => b < w.heap.size) (G := fun b => b < w.heap.size) (vo := .slice a0 o.length cap0) (vd := .slice a1 d.length cap1) W so' sd'
  have HL := Lib.hid hlh
  have SO := Lib.hid (And.intro so sd)
  have HM := Lib.hid hsm
  have HR := Lib.hid hr
  generalize meanC o d lo hi = m at *
  obtain ⟨vo, co, ho'⟩ := so.slice
  clear hmn hlo hhi hcm hr hsm hlh so sd g1 g2 ba bb bn ho'
  go_enter Try.func5, Try.ntmps5
  go_wp2_with fail
  (with_reducible refine (cs _).mono ?_)
  rintro e w1 ⟨rfl, B1⟩
  have hx := heap_alloc_new w1 (.cells #[.int .i64 lo, .int .i64 hi] 24)
  have B2 := B1.alloc B1.size (.cells #[.int .i64 lo, .int .i64 hi] 24)
  obtain ⟨s0, s1⟩ := two_in18 hx
  have hz := World.size_alloc w1 (.cells #[.int .i64 lo, .int .i64 hi] 24)
  have lx : w.heap.size ≤ w1.heap.size := B1.size
  have X := Lib.hid (And.intro hx (And.intro B2 hz))
  clear hx B2 hz B1
  go_wp2_with fail
  generalize w1.alloc (.cells #[.int .i64 lo, .int .i64 hi] 24) = w2 at *
  obtain ⟨hx, B2, hz⟩ := X.out
  have cc := c1 w2 (SO.out.1.kept fun b hb => B2.block b hb) (SO.out.2.kept fun b hb => B2.block b hb) (fun b hb => Nat.lt_of_lt_of_le hb B2.size) (fun b hb => Nat.lt_of_lt_of_le hb B2.size)
  (with_reducible refine cc.mono ?_)
  rintro e w3 ⟨rfl, B3⟩
  have hx3 := (B3.block _ (by omega)).trans hx
  have B3' := B2.trans (B3.mono B2.size)
  have z3 := B3'.size
  have lw3 : w1.heap.size < w3.heap.size := by have := B3.size; omega
  obtain ⟨i0, hi0, hz0, hz1, hz2⟩ := info_parts info_i64_18
  have ownS := (ownsRow_fresh w3 2 1 w3.heap.size (Nat.le_refl _)).alloc (.cells #[] 2)
  have ownT := ownsRow_fresh (w3.alloc (.cells #[] 2)) 2 1 w3.heap.size (by simp)
  have bS := ((Below.refl w3.heap.size w3).alloc (Nat.le_refl _) (.cells #[] 2)).alloc (by simp) (.cells #[] 2)
  have hap0 : Apa (.slice (some ⟨w3.heap.size, 0, none⟩) 0 0) (.slice (some ⟨w3.heap.size + 1, 0, none⟩) 0 0) := fun b h1 h2 => by
    simp [Value.ownBlock] at h1 h2
    omega
  rw [World.size_alloc] at ownT
  have X3 := Lib.hid (And.intro hx3 (And.intro B3' lw3))
  clear hx B2 hz X hx3 B3' B3 cc c1 SO s0 s1 f1 f2 f3
  go_wp2_with fail
  go_loopw [15, 16, 17] (fun o p i wr => ∃ q : Nat, q ≤ r + 1 ∧ i = .int .i64 (q : Int) ∧ Apa o p ∧ wr.ownsRow w3.heap.size 2 1 o q ((samL same q).flatMap (oneE .i64)) ∧ wr.ownsRow w3.heap.size 2 1 p q ((stpL q).flatMap (oneE .i64)) ∧ Below w3.heap.size w3 wr) (fun _ _ i _ => r + 1 - (intOf i).toNat)
  case atStart => exact ⟨0, Nat.zero_le _, rfl, hap0, ownS, ownT, bS⟩
  case round =>
    obtain ⟨q, hq, rfl, hap, own1, own2, hB⟩ := hrel
    clear ownS ownT bS hap0
    have z1 := hB.size
    by_cases hlt : q < r + 1
    · have i3 : (q : Int) < (r : Int) + 1 := by omega
      have v6 : IntKind.i64.wrap (q : Int) = (q : Int) := by rw [IntKind.wrap_i64]; omega
      have v7 : IntKind.i64.wrap ((q : Int) * 21474836) = (q : Int) * 21474836 := by rw [IntKind.wrap_i64]; omega
      have TK := Lib.hid (And.intro (sam_step same q) (stp_step q))
      go_wp2_with (first | (at_builtin; refine wpList_append_own_at _ rfl _ _ 22 rfl w3.heap.size 2 i0 _ 1 8 Try.underlying22 hi0 hz0 hz1 hz2 rfl (by decide) _ _ _ rfl (own1.alloc _) ⟨wr.heap.size, 0, none⟩ 1 1 [.int .i64 same] rfl rfl (new_row15 _ _ _) (by intro u hu; simp at hu; subst hu; rfl) (by unfold maxLen; omega) (by omega) (by simp; omega) ?_; intro v4 w4 hown4 hgrow4 _ hat4; have own4 : w4.ownsRow w3.heap.size 2 1 v4 (q + 1) ((samL same (q + 1)).flatMap (oneE .i64)) := (by rw [TK.out.1, List.flatMap_append]; exact hown4); have B4 := (hB.alloc z1 (.cells #[.int .i64 same] 2)).grown hgrow4 (by simp; omega) (fun g hg => (own1.lt g hg).1); have z4 := B4.size; have p4 := (own2.alloc (.cells #[.int .i64 same] 2)).kept hgrow4 (apart_ne hap); have ap4 := apart_left (H := wr.heap.size + 1) hap hat4 (by simp) (fun b hb => by have := (own2.lt b hb).2; omega)) | (at_builtin; refine wpList_append_own_at _ rfl _ _ 22 rfl w3.heap.size 2 i0 _ 1 8 Try.underlying22 hi0 hz0 hz1 hz2 rfl (by decide) _ _ _ rfl (p4.alloc _) ⟨w4.heap.size, 0, none⟩ 1 1 [.int .i64 ((q : Int) * 21474836)] rfl rfl (new_row15 _ _ _) (by intro u hu; simp at hu; subst hu; rfl) (by unfold maxLen; omega) (by omega) (by simp; omega) ?_; intro v5 w5 hown5 hgrow5 _ hat5; have own5 : w5.ownsRow w3.heap.size 2 1 v5 (q + 1) ((stpL (q + 1)).flatMap (oneE .i64)) := (by rw [TK.out.2, List.flatMap_append]; exact hown5); have B5 := (B4.alloc z4 (.cells #[.int .i64 ((q : Int) * 21474836)] 2)).grown hgrow5 (by simp; omega) (fun g hg => (p4.lt g hg).1); have z5 := B5.size; have own4' := (own4.alloc (.cells #[.int .i64 ((q : Int) * 21474836)] 2)).kept hgrow5 (apart_ne (apart_symm ap4)); have ap5 := apart_symm (apart_left (H := w4.heap.size + 1) (apart_symm ap4) hat5 (by simp) (fun b hb => by have := (own4.lt b hb).2; omega))))
      go_roundw
      case rel => exact ⟨q + 1, by omega, by go_num, ap5, own4', own5, B5⟩
      case measure => simp [intOf]; omega
    · have eq : q = r + 1 := by omega
      subst eq
      have i3 : ¬ ((r + 1 : Nat) : Int) < (r : Int) + 1 := by omega
      generalize wr = wo at *
      have hT := SlAt.own (k := 1) (enc := oneE .i64) (l := samL same (r + 1)) (fun _ => rfl) (by rw [sam_length]; exact own1)
      have hU := SlAt.own (k := 1) (enc := oneE .i64) (l := stpL (r + 1)) (fun _ => rfl) (by rw [stp_length]; exact own2)
      obtain ⟨tx, tc, rfl⟩ := hT.slice
      obtain ⟨ux, uc, rfl⟩ := hU.slice
      have c2 := cmean_any (samL same (r + 1)) (stpL (r + 1)) (by rw [sam_length]; omega) (by rw [stp_length]; omega) (sam_typed same bs.1 bs.2 _) (stp_typed _ (by omega)) (-1099511627776) 1099511627776 (by decide) (by decide) wo hT hU (fun b hb => hb.2) (fun b hb => hb.2)
      have hsm := HM.out
      generalize meanC (samL same (r + 1)) (stpL (r + 1)) (-1099511627776) 1099511627776 = x at *
      rw [sam_length, stp_length] at c2
      rw [sam_length] at hT ⊢
      rw [stp_length] at hU ⊢
      obtain ⟨hx, B3, lw3⟩ := X3.out
      have hxo := (hB.block _ lw3).trans hx
      have Bo := B3.trans (hB.mono z3)
      have lo3 : w1.heap.size < wo.heap.size := by omega
      have XO := Lib.hid (And.intro hxo (And.intro Bo lo3))
      have e1 : decide (lo ≤ m) = true := decide_eq_true hcl.1
      have e2 : decide (m ≤ hi) = true := decide_eq_true hcl.2
      have e3 : decide (same - 1 ≤ x) = true := decide_eq_true hsm.1
      have e4 : decide (x ≤ same) = true := decide_eq_true hsm.2
      have HS := Lib.hid (And.intro hcl hsm)
      clear hx B3 lw3 hxo Bo hT hU own1 own2 hB hap X3 hsm hcl
      go_wp2_with fail
      (with_reducible refine c2.mono ?_)
      rintro e w4 ⟨rfl, B4⟩
      obtain ⟨hxo, Bo, lo3⟩ := XO.out
      obtain ⟨s0, s1⟩ := two_in18 ((B4.block _ lo3).trans hxo)
      have BF := Lib.hid (Bo.trans (B4.mono Bo.size))
      obtain ⟨hcl, hsm⟩ := HS.out
      clear hxo Bo B4 XO c2
      go_wp2_with fail
      go_ret
      exact ⟨by simp [hcl.1, hcl.2, hsm.1, hsm.2], BF.out⟩
set_option maxRecDepth 100000 in
theorem lifted (os : Os) (started : os.Started) (H : Type) (enc : TypeId × Value → H) :
    ReturnsInHanded {} Try.checked os 5 .any (Rows.combineWithinSpec.pre6 enc Try.prog Try.f5 Rows.combineWithinRow.domain false) (Rows.combineWithinSpec.post enc Try.prog Try.f5 false true false false) := by
  refine returnsInHanded_of_change (C := Try.checked) own started (by kernel_rfl) Try.func5
    (ChangeSpec.witness6 (enc := enc) (C := Try.checked) false ⟨#[], #[.slice none 0 0, .slice none 0 0, .int .i64 0, .int .i64 0, .int .i32 0, .int .u8 0], []⟩ 8 (by kernel_rfl) (by kernel_rfl) (by kernel_rfl) (by kernel_rfl)) ?_
  intro W base args ds gs before hval0 hW hcnd _
  have hval : ∀ (j : Nat) t v, Try.f5.params[j]? = some t → args[j]? = some v → Value.okWide Try.prog W .any base t v := hval0
  have hW' := hW
  obtain ⟨p, q, hA0, hV, rfl, hfz, hnd⟩ := hW
  have hA : DataW.TrodAll enc Try.prog W 0 (fun _ => true) true Try.f5.params.toList args.toList ds p := hA0
  rw [Try.params5] at hA hval
  obtain ⟨v0, vs0, d0, ds0, p0, q0, hargs, rfl, rfl, h0, r0⟩ := trodAll_cons hA
  obtain ⟨v1, vs1, d1, ds1, p1, q1, rfl, rfl, rfl, h1, r1⟩ := trodAll_cons r0
  obtain ⟨v2, vs2, d2, ds2, p2, q2, rfl, rfl, rfl, h2, r2⟩ := trodAll_cons r1
  obtain ⟨v3, vs3, d3, ds3, p3, q3, rfl, rfl, rfl, h3, r3⟩ := trodAll_cons r2
  obtain ⟨v4, vs4, d4, ds4, p4, q4, rfl, rfl, rfl, h4, r4⟩ := trodAll_cons r3
  obtain ⟨v5, vs5, d5, ds5, p5, q5, rfl, rfl, rfl, h5, r5⟩ := trodAll_cons r4
  obtain ⟨rfl, rfl, rfl⟩ := trodAll_nil r5
  obtain rfl : args = #[v0, v1, v2, v3, v4, v5] := by cases args; simp_all
  obtain ⟨rfl, rfl⟩ := trodVars_none hV
  obtain ⟨a0, len0, cap0, rfl⟩ := okWide_slice Try.underlying22 (hval 0 22 v0 rfl rfl)
  have k0 := h0
  have lt0 : ∀ x ∈ p0, x.block < W.heap.size := by obtain ⟨m, hm⟩ := k0; exact DataW.trod_lt m _ _ _ hm
  obtain ⟨z0, w0⟩ : ∃ zs, IsRow .i64 W a0 len0 cap0 zs := by
    obtain ⟨fuel, hf⟩ := h0
    rcases open_ints Try.underlying22 Try.underlying2 (by kernel_rfl) hf with ⟨hcs, _⟩ | ⟨x, l, c, zs, hcs, _, hl, hm, hz, _, hcell, hwz⟩
    · simp [Value.cells] at hcs
      obtain ⟨rfl, rfl, rfl⟩ := hcs
      exact ⟨[], .inl ⟨rfl, rfl, rfl, rfl⟩⟩
    · simp [Value.cells] at hcs
      obtain ⟨rfl, rfl, rfl⟩ := hcs
      exact ⟨zs, .inr ⟨_, rfl, hl, hm, by simpa using hz, hcell, hwz⟩⟩
  obtain ⟨a1, len1, cap1, rfl⟩ := okWide_slice Try.underlying22 (hval 1 22 v1 rfl rfl)
  have k1 := h1
  have lt1 : ∀ x ∈ p1, x.block < W.heap.size := by obtain ⟨m, hm⟩ := k1; exact DataW.trod_lt m _ _ _ hm
  obtain ⟨z1, w1⟩ : ∃ zs, IsRow .i64 W a1 len1 cap1 zs := by
    obtain ⟨fuel, hf⟩ := h1
    rcases open_ints Try.underlying22 Try.underlying2 (by kernel_rfl) hf with ⟨hcs, _⟩ | ⟨x, l, c, zs, hcs, _, hl, hm, hz, _, hcell, hwz⟩
    · simp [Value.cells] at hcs
      obtain ⟨rfl, rfl, rfl⟩ := hcs
      exact ⟨[], .inl ⟨rfl, rfl, rfl, rfl⟩⟩
    · simp [Value.cells] at hcs
      obtain ⟨rfl, rfl, rfl⟩ := hcs
      exact ⟨zs, .inr ⟨_, rfl, hl, hm, by simpa using hz, hcell, hwz⟩⟩
  obtain ⟨a2, rfl, rfl, rfl, w2⟩ := open_int Try.underlying2 (hval 2 2 v2 rfl rfl) h2
  obtain ⟨a3, rfl, rfl, rfl, w3⟩ := open_int Try.underlying2 (hval 3 2 v3 rfl rfl) h3
  obtain ⟨a4, rfl, rfl, rfl, w4⟩ := open_int Try.underlying21 (hval 4 21 v4 rfl rfl) h4
  obtain ⟨a5, rfl, rfl, rfl, w5⟩ := open_int Try.underlying5 (hval 5 5 v5 rfl rfl) h5
  clear hA0 hval0
  refine (walk a0 len0 cap0 z0 a1 len1 cap1 z1 a2 a3 a4 a5 W w0 w1 w2 w3 w4 w5).mono fun e W' ⟨he, bel⟩ => ?_
  subst he
  exact ⟨_, rfl, _, _, _, [], _, [], hW', trodAll_mk1 (shut_bool Try.underlying4 _), (trodAll_cons_mk (Below.trod laidOut (by kernel_rfl) (of_decide_eq_true (by kernel_rfl)) k0 bel lt0) (trodAll_cons_mk (Below.trod laidOut (by kernel_rfl) (of_decide_eq_true (by kernel_rfl)) k1 bel lt1) (trodAll_cons_mk (shut_int Try.underlying2 w2) (trodAll_cons_mk (shut_int Try.underlying2 w3) (trodAll_cons_mk (shut_int Try.underlying21 w4) (trodAll_cons_mk (shut_int Try.underlying5 w5) trodAll_mk0)))))), rfl, bel.frame _, fun h => by cases h⟩

theorem over : Rows.combineWithinRow.holds Try.pinned (OpenSpec.ofChange Rows.combineWithinSpec) :=
  OpenClaim.holds_of_wide 5 Try.f5 rfl rfl rfl rfl rfl rfl rfl ⟨rfl, rfl, rfl, rfl, rfl⟩ rfl rfl rfl rfl rfl (by kernel_rfl) Try.func5 (by kernel_rfl)
    (of_decide_eq_true (by kernel_rfl)) (by unfold Func.isWrapper; first | (rw [if_pos (by decide +kernel)]; kernel_rfl) | (rw [if_neg (by decide +kernel)]; exact ⟨rfl, rfl⟩))
    (fun os started H enc _ => lifted os started H enc)

theorem proved : Rows.CombineWithinSaid := over
end Go.Proofs.Ytekdablolacgfaa.CombineWithin
