/- ClusterMoves: how far nodes are apart, and which ones are kept, does not hang on where they all are. No further condition. -/
import Derived.Test.YtefjdmbioclddaaCnZ
import Derived.Test.YtefjdmbioclddaaCnB
import Derived.Test.YtefjdmbioclddaaFixJ
import Derived.Test.YtefjdmbioclddaaRowS
import Derived.Deep.SlicePairs
import Derived.WalkKit
import Derived.WalkSpells
import Derived.WalkLawsBesides
import Derived.Lib.Hide
import Derived.Handy
import Derived.ProofKit
import Derived.OpenShut
import Derived.ShutString
import Derived.ChangeOld
import Derived.Below
namespace Go.Proofs.Ytefjdmbioclddaa.ClusterMoves
open Go.RowKit Go.Sort Go.Proofs.Ytefjdmbioclddaa.W
open Go.ChangeShapes Go.WideShapes Go.ChangeAt
open Go.ChangeMaps (open_string shut_string)
set_option linter.unusedVariables false
set_option linter.unusedSimpArgs false
theorem own : ownKnob Try.prog.godebug = none := by kernel_rfl
theorem laidOut : laidOutB Try.prog = true := by kernel_rfl
/-- Two slices in blocks of their own. -/
def Apa (u v : Value) : Prop := ∀ b, u.ownBlock = some b → v.ownBlock = some b → False
theorem apart_ne {u v : Value} (h : Apa u v) : v.ownBlock = none ∨ v.ownBlock ≠ u.ownBlock := by
  cases hv : v.ownBlock with
  | none => exact .inl rfl
  | some b => exact .inr fun e => h b e.symm hv
theorem apart_symm {u v : Value} (h : Apa u v) : Apa v u := fun b h1 h2 => h b h2 h1
theorem apart_left {u v u' : Value} {n H : Nat} (h : Apa u v) (ha : u'.ownBlock = u.ownBlock ∨ u'.ownBlock = some n) (hn : n = H) (hv : ∀ b, v.ownBlock = some b → b < H) : Apa u' v := fun b h1 h2 => by
  rcases ha with ha | ha
  · exact h b (ha.symm.trans h1) h2
  · have e : n = b := Option.some.inj (ha.symm.trans h1)
    have := hv b h2
    omega
theorem apart_new {u v : Value} {g n H cp : Nat} (h : Apa u v) (ha : u.ownBlock = some g ∨ g = H) (hv : ∀ b, v.ownBlock = some b → b < H) : Apa (.slice (some ⟨g, 0, none⟩) n cp) v := fun b h1 h2 => by
  have e : g = b := Option.some.inj h1
  rcases ha with ha | ha
  · exact h b (ha.trans (congrArg some e)) h2
  · have := hv b h2
    omega
set_option maxRecDepth 100000 in
set_option maxHeartbeats 25600000 in
theorem walk (a1 : Option Addr) (len1 cap1 : Nat) (zs : List Int) (a2 : Option Addr) (len2 cap2 : Nat) (ys : List Int) (by_ least : Int) (w : World) (iw : IsRow .i32 w a1 len1 cap1 zs) (jw : IsRow .u16 w a2 len2 cap2 ys) (wb : (Lit.int .i32 by_).wf = true) (wl : (Lit.int .u8 least).wf = true) :
    Calls Try.prog 6 #[.slice a1 len1 cap1, .slice a2 len2 cap2, .int .i32 by_, .int .u8 least] w fun e w' => e = .returned (.bool true) ∧ Below w.heap.size w w' := by
  have b0 := bounds_i32 wb
  have bl := bounds_u8 wl
  obtain ⟨ln, rfl⟩ : ∃ ln : Nat, least = (ln : Int) := ⟨least.toNat, by omega⟩
  obtain ⟨z, rfl, hz, iv⟩ := iw.sl
  obtain ⟨yz, rfl, hy, jv⟩ := jw.sl
  clear iw jw wb wl
  have cs := shown17_any
  have hzb : ∀ b ∈ z, -2147483648 ≤ b ∧ b ≤ 2147483647 := fun b hb => by have := bounds_i32 (hz b hb); omega
  have hyb : ∀ b ∈ yz, 0 ≤ b ∧ b ≤ 65535 := fun b hb => by have := u16_bounds (hy b hb); omega
  clear hz hy
  by_cases h20 : 20 < z.length
  · have i20 : (20 : Int) < (z.length : Int) := by omega
    go_enter Try.func6, Try.ntmps6
    go_wp2_with fail
    (with_reducible refine (cs _).mono ?_)
    rintro e w1 ⟨rfl, B1⟩
    go_wp2_with fail
    go_ret
    exact ⟨rfl, B1⟩
  have i20 : ¬ (20 : Int) < (z.length : Int) := by omega
  by_cases hly : yz.length < z.length
  · have i21 : (yz.length : Int) < (z.length : Int) := by omega
    go_enter Try.func6, Try.ntmps6
    go_wp2_with fail
    (with_reducible refine (cs _).mono ?_)
    rintro e w1 ⟨rfl, B1⟩
    go_wp2_with fail
    go_ret
    exact ⟨rfl, B1⟩
  have i21 : ¬ (yz.length : Int) < (z.length : Int) := by omega
  have i20d : decide ((20 : Int) < (z.length : Int)) = false := decide_eq_false i20
  have i21d : decide ((yz.length : Int) < (z.length : Int)) = false := decide_eq_false i21
  have i21e : decide (yz.length < z.length) = false := decide_eq_false hly
  obtain ⟨i0, hi0, hz0, hz1, hz2⟩ := info_parts info_nd
  obtain ⟨k, hk⟩ : ∃ k, ln % 12 = k := ⟨_, rfl⟩
  have r2 : Int.tmod (ln : Int) 12 = (k : Int) := by rw [← hk]; rfl
  have q2 : IntKind.i64.wrap (ln : Int) = (ln : Int) := by rw [IntKind.wrap_i64]; omega
  have q4 : IntKind.i64.wrap (k : Int) = (k : Int) := by rw [IntKind.wrap_i64]; omega
  have q5 : IntKind.i64.wrap by_ = by_ := by rw [IntKind.wrap_i64]; omega
  have hk10 : k ≤ 11 := by omega
  have HZ := Lib.hid (And.intro hzb hyb)
  have HI := Lib.hid (And.intro iv jv)
  have typed : ∀ d : Int, -2147483648 ≤ d ∧ d ≤ 2147483647 → ∀ c ∈ mvL d z yz z.length, c.Typed := fun d hd c hc => by
    obtain ⟨i, hi, rfl⟩ := List.mem_map.1 hc
    have h9 := List.mem_range.1 hi
    have g1 := hzb (z.getD i 0) (by simp [List.getD, h9])
    have g2 := hyb (yz.getD i 0) (by have : i < yz.length := by omega
                                     simp [List.getD, this])
    refine ⟨?_, ?_, ?_⟩ <;> (dsimp only; omega)
  have TT := Lib.hid (And.intro (typed 0 (by omega)) (typed by_ (by omega)))
  have MV := Lib.hid (And.intro (mv_prune by_ z yz z.length (k : Int)) (mv_spread by_ z yz z.length))
  clear hzb hyb iv jv typed hk
  go_enter Try.func6, Try.ntmps6
  go_wp2_with fail
  (with_reducible refine (cs _).mono ?_)
  rintro e w2 ⟨rfl, B2⟩
  have l2 := B2.size
  have HB2 := Lib.hid B2
  have ownS := ownsRow_fresh w2 40 3 w2.heap.size (Nat.le_refl _)
  have ownS' := ownS.alloc (.cells #[] 40)
  have ownT := ownsRow_fresh (w2.alloc (.cells #[] 40)) 40 3 w2.heap.size (by simp)
  have bS := ((Below.refl w2.heap.size w2).alloc (Nat.le_refl _) (.cells #[] 40)).alloc (by simp) (.cells #[] 40)
  have hap0 : Apa (.slice (some ⟨w2.heap.size, 0, none⟩) 0 0) (.slice (some ⟨w2.heap.size + 1, 0, none⟩) 0 0) := fun b h1 h2 => by
    simp [Value.ownBlock] at h1 h2
    omega
  rw [World.size_alloc] at ownT
  clear B2 ownS
  go_wp2_with fail
  go_loopw [9, 10, 11] (fun o p i wr => ∃ q : Nat, q ≤ z.length ∧ i = .int .i64 (q : Int) ∧ Apa o p ∧ wr.ownsRow w2.heap.size 40 3 o (mvL 0 z yz q).length ((mvL 0 z yz q).flatMap ndC) ∧ wr.ownsRow w2.heap.size 40 3 p (mvL by_ z yz q).length ((mvL by_ z yz q).flatMap ndC) ∧ Below w2.heap.size w2 wr) (fun _ _ i _ => z.length - (intOf i).toNat)
  case atStart => exact ⟨0, Nat.zero_le _, rfl, hap0, ownS', ownT, bS⟩
  case round =>
    obtain ⟨q, hq, rfl, hap, own1, own2, hB⟩ := hrel
    clear ownS' ownT bS hap0
    have z1 := hB.size
    have h1 := mv_length 0 z yz q
    have h2 := mv_length by_ z yz q
    have O1 := Lib.hid own1
    have O2 := Lib.hid own2
    rw [h1] at own1
    rw [h2] at own2
    by_cases hlt : q < z.length
    · obtain ⟨x, hx⟩ : ∃ x, z[q]? = some x := ⟨_, List.getElem?_eq_getElem hlt⟩
      obtain ⟨y, hy⟩ : ∃ y, yz[q]? = some y := ⟨_, List.getElem?_eq_getElem (by omega)⟩
      have hxb := HZ.out.1 x (List.mem_of_getElem? hx)
      have hyb := HZ.out.2 y (List.mem_of_getElem? hy)
      have i1 : (q : Int) < z.length := by omega
      have i1y : (q : Int) < yz.length := by omega
      have i0' : (0 : Int) ≤ (q : Int) := by omega
      have s1 := mv_step 0 hx hy
      rw [Int.add_zero] at s1
      have s2 := mv_step by_ hx hy
      have m1 : IntKind.i64.wrap x = x := by rw [IntKind.wrap_i64]; omega
      have m2 : IntKind.i64.wrap y = y := by rw [IntKind.wrap_i64]; omega
      have m3 : IntKind.i64.wrap (x + by_) = x + by_ := by rw [IntKind.wrap_i64]; omega
      rcases HI.out.1 with ⟨_, _, _, _, hnil⟩ | ⟨b1, o1, c1, hv1, hF1, e1⟩
      · rw [hnil] at hx; cases hx
      rcases HI.out.2 with ⟨_, _, _, _, hnil⟩ | ⟨b2, o2, c2, hv2, hF2, e2⟩
      · rw [hnil] at hy; cases hy
      have g1 := (Value.slice.inj hv1).1
      have g2 := (Value.slice.inj hv2).1
      subst g1 g2
      have lb1 := Nat.lt_of_lt_of_le hF1 l2
      have lb2 := Nat.lt_of_lt_of_le hF2 l2
      have cell1 : wr.cell? ⟨b1, o1 + q, none⟩ = some (.int .i32 x) := by
        rw [hB.cell lb1, HB2.out.cell hF1]
        have := e1 q x hx 0 _ rfl
        simpa using this
      have cell2 : wr.cell? ⟨b2, o2 + q, none⟩ = some (.int .u16 y) := by
        rw [hB.cell lb2, HB2.out.cell hF2]
        have := e2 q y hy 0 _ rfl
        simpa using this
      have bw1 : b1 < wr.heap.size := Nat.lt_of_lt_of_le lb1 z1
      have bw2 : b2 < wr.heap.size := Nat.lt_of_lt_of_le lb2 z1
      have paa := own_apart own1 lb1
      have pab := own_apart own1 lb2
      have TK := Lib.hid (And.intro s1 s2)
      have HL := Lib.hid (And.intro h1 h2)
      clear s1 s2 h1 h2 O1 O2 hx hy e1 e2 hv1 hv2
      have ka1 : ((wr.alloc (.cells (ndA ⟨x, y, (q : Int)⟩) 40)).drew).cell? ⟨b1, o1 + q, none⟩ = some (.int .i32 x) := (((Below.refl wr.heap.size wr).alloc (Nat.le_refl _) (.cells (ndA ⟨x, y, (q : Int)⟩) 40)).drew.cell bw1).trans cell1
      have ka2 : ((wr.alloc (.cells (ndA ⟨x, y, (q : Int)⟩) 40)).drew).cell? ⟨b2, o2 + q, none⟩ = some (.int .u16 y) := (((Below.refl wr.heap.size wr).alloc (Nat.le_refl _) (.cells (ndA ⟨x, y, (q : Int)⟩) 40)).drew.cell bw2).trans cell2
      go_wp2_with fail
      go_region_held3 (fun w' => w'.cell? ⟨b1, o1 + q, none⟩ = some (.int .i32 x) ∧ w'.cell? ⟨b2, o2 + q, none⟩ = some (.int .u16 y))
        (first
          | go_keep
          | (exact ⟨(hgrow4.cell_far _ (by simp; omega) (Ne.symm paa)).trans ka1, (hgrow4.cell_far _ (by simp; omega) (Ne.symm pab)).trans ka2⟩))
        (first
          | (refine step_append_lies _ (by rfl) _ _ _ (by rfl) w2.heap.size 40 i0 _ 3 24 Try.underlying22 hi0 hz0 hz1 hz2 rfl (by decide) _ q ((mvL 0 z yz q).flatMap ndC) (by rfl) ((own1.alloc _).drew)
                ⟨wr.heap.size, 0, none⟩ 1 1 (ndC ⟨x, y, (q : Int)⟩) (by rfl) (by rfl) (World.news_of_block (cs := ndA ⟨x, y, (q : Int)⟩) (t := 40) (fr := (0, 0)) (heap_alloc_new wr _)) (ndC_one _) (by omega) (by unfold maxLen; omega) (by omega) (by simp; omega) (wr.heap.size + 1) (by simp) ?_; intro gg4 cp4 w4 hown4 hgrow4 hat4 hglt4))
      have own4 : w4.ownsRow w2.heap.size 40 3 (.slice (some ⟨gg4, 0, none⟩) (q + 1) cp4) (mvL 0 z yz (q + 1)).length ((mvL 0 z yz (q + 1)).flatMap ndC) := by
        rw [TK.out.1, List.flatMap_append, List.length_append, HL.out.1]
        simpa using hown4
      have B4 : Below w2.heap.size w2 w4 := ((hB.alloc z1 (.cells (ndA ⟨x, y, (q : Int)⟩) 40)).drew).grown hgrow4 (by simp; omega) (fun g hg => (own1.lt g hg).1)
      have p4 := ((own2.alloc (.cells (ndA ⟨x, y, (q : Int)⟩) 40)).drew).kept hgrow4 (apart_ne hap)
      have ap4 := apart_new (n := q + 1) (cp := cp4) hap hat4 (fun b hb => by have := (own2.lt b hb).2; omega)
      have z4 := B4.size
      have d1 : w4.cell? ⟨b1, o1 + q, none⟩ = some (.int .i32 x) := by rw [B4.cell lb1]; have h9 := cell1; rw [hB.cell lb1] at h9; exact h9
      have d2 : w4.cell? ⟨b2, o2 + q, none⟩ = some (.int .u16 y) := by rw [B4.cell lb2]; have h9 := cell2; rw [hB.cell lb2] at h9; exact h9
      have pba := own_apart p4 lb1
      have pbb := own_apart p4 lb2
      have bv1 : b1 < w4.heap.size := Nat.lt_of_lt_of_le lb1 z4
      have bv2 : b2 < w4.heap.size := Nat.lt_of_lt_of_le lb2 z4
      have kb1 : ((w4.alloc (.cells (ndA ⟨x + by_, y, (q : Int)⟩) 40)).drew).cell? ⟨b1, o1 + q, none⟩ = some (.int .i32 x) := (((Below.refl w4.heap.size w4).alloc (Nat.le_refl _) (.cells (ndA ⟨x + by_, y, (q : Int)⟩) 40)).drew.cell bv1).trans d1
      have kb2 : ((w4.alloc (.cells (ndA ⟨x + by_, y, (q : Int)⟩) 40)).drew).cell? ⟨b2, o2 + q, none⟩ = some (.int .u16 y) := (((Below.refl w4.heap.size w4).alloc (Nat.le_refl _) (.cells (ndA ⟨x + by_, y, (q : Int)⟩) 40)).drew.cell bv2).trans d2
      clear hown4 hgrow4 hat4 own1 own2 hB cell1 cell2 ka1 ka2 hap paa pab hglt4
      go_wp2_with fail
      go_region_held3 (fun w' => w'.cell? ⟨b1, o1 + q, none⟩ = some (.int .i32 x) ∧ w'.cell? ⟨b2, o2 + q, none⟩ = some (.int .u16 y))
        (first
          | go_keep
          | (exact ⟨(hgrow5.cell_far _ (by simp; omega) (Ne.symm pba)).trans kb1, (hgrow5.cell_far _ (by simp; omega) (Ne.symm pbb)).trans kb2⟩))
        (first
          | (refine step_append_lies _ (by rfl) _ _ _ (by rfl) w2.heap.size 40 i0 _ 3 24 Try.underlying22 hi0 hz0 hz1 hz2 rfl (by decide) _ q ((mvL by_ z yz q).flatMap ndC) (by rfl) ((p4.alloc _).drew)
                ⟨w4.heap.size, 0, none⟩ 1 1 (ndC ⟨x + by_, y, (q : Int)⟩) (by rfl) (by rfl) (World.news_of_block (cs := ndA ⟨x + by_, y, (q : Int)⟩) (t := 40) (fr := (0, 0)) (heap_alloc_new w4 _)) (ndC_one _) (by omega) (by unfold maxLen; omega) (by omega) (by simp; omega) (w4.heap.size + 1) (by simp) ?_; intro gg5 cp5 w5 hown5 hgrow5 hat5 hglt5))
      have own5 : w5.ownsRow w2.heap.size 40 3 (.slice (some ⟨gg5, 0, none⟩) (q + 1) cp5) (mvL by_ z yz (q + 1)).length ((mvL by_ z yz (q + 1)).flatMap ndC) := by
        rw [TK.out.2, List.flatMap_append, List.length_append, HL.out.2]
        simpa using hown5
      have B5 : Below w2.heap.size w2 w5 := ((B4.alloc z4 (.cells (ndA ⟨x + by_, y, (q : Int)⟩) 40)).drew).grown hgrow5 (by simp; omega) (fun g hg => (p4.lt g hg).1)
      have own4' := ((own4.alloc (.cells (ndA ⟨x + by_, y, (q : Int)⟩) 40)).drew).kept hgrow5 (apart_ne (apart_symm ap4))
      have ap5 := apart_symm (apart_new (n := q + 1) (cp := cp5) (apart_symm ap4) hat5 (fun b hb => by have := (own4.lt b hb).2; omega))
      have RR := Lib.hid (And.intro ap5 (And.intro own4' (And.intro own5 B5)))
      clear hown5 hgrow5 hat5 own4 own5 own4' B4 B5 p4 ap4 ap5 d1 d2 kb1 kb2 pba pbb hglt5
      go_wp2_with fail
      go_roundw
      case rel => exact ⟨q + 1, by omega, by go_num, RR.out.1, RR.out.2.1, RR.out.2.2.1, RR.out.2.2.2⟩
      case measure => simp [intOf]; omega
    · have eq : q = z.length := by omega
      subst eq
      generalize wr = wo at *
      have hT := SlAt.own ndC_length O1.out
      have hU := SlAt.own ndC_length O2.out
      obtain ⟨tx, tc, rfl⟩ := hT.slice
      obtain ⟨ux, uc, rfl⟩ := hU.slice
      rw [h1] at hT ⊢
      rw [h2] at hU ⊢
      have XP := fun W (h : Below wo.heap.size wo W) => cprn_any (mvL 0 z yz z.length) TT.out.1 (by rw [h1]; omega) (k : Int) (by omega) W (hT.kept (fun b hb => h.block b hb.2)) (fun b hb => Nat.lt_of_lt_of_le hb.2 h.size)
      have XQ := fun W (h : Below wo.heap.size wo W) => cprn_any (mvL by_ z yz z.length) TT.out.2 (by rw [h2]; omega) (k : Int) (by omega) W (hU.kept (fun b hb => h.block b hb.2)) (fun b hb => Nat.lt_of_lt_of_le hb.2 h.size)
      have XS := fun W (h : Below wo.heap.size wo W) => csprd_any (mvL 0 z yz z.length) TT.out.1 (by rw [h1]; omega) W (hT.kept (fun b hb => h.block b hb.2)) (fun b hb => Nat.lt_of_lt_of_le hb.2 h.size)
      have XR := fun W (h : Below wo.heap.size wo W) => csprd_any (mvL by_ z yz z.length) TT.out.2 (by rw [h2]; omega) W (hU.kept (fun b hb => h.block b hb.2)) (fun b hb => Nat.lt_of_lt_of_le hb.2 h.size)
      obtain ⟨pl1, pl2, pl3, pl4, pl5, pl6⟩ := prune_is (mvL 0 z yz z.length) (k : Int)
      rw [h1] at pl4
      rw [MV.out.1] at XQ
      rw [MV.out.2] at XR
      generalize (prune (mvL 0 z yz z.length) (k : Int)).2 = pf at *
      generalize (prune (mvL 0 z yz z.length) (k : Int)).1 = P at *
      generalize spreadI (mvL 0 z yz z.length) = sd at *
      have HX := Lib.hid (And.intro XP (And.intro XQ (And.intro XS XR)))
      have BR := Below.refl wo.heap.size wo
      have BW := HB2.out.trans (hB.mono l2)
      clear XP XQ XS XR hT hU own1 own2 hB h1 h2 O1 O2 TT MV hap pl1 pl2 pl3 pl5 pl6
      have kk := HX.out.1 _ BR
      go_wp2_with fail
      (with_reducible refine kk.mono ?_)
      rintro e w3 ⟨u, rfl, hu, hb⟩
      obtain ⟨vx, vc, rfl⟩ := hu.slice
      have ru := hb.size
      replace BR := BR.trans (hb.mono BR.size)
      replace BW := BW.trans (hb.mono BW.size)
      clear hb kk
      have kk := HX.out.2.1 _ BR
      go_wp2_with fail
      (with_reducible refine kk.mono ?_)
      rintro e w4 ⟨u, rfl, hu2, hb⟩
      obtain ⟨yx, yc, rfl⟩ := hu2.slice
      have hu' := hu.kept (fun b h => hb.block b h.2)
      have ki := ints17_any P (by omega) w4 hu' hu2 (fun b h => Nat.lt_of_lt_of_le h.2 hb.size) (fun b h => h.2)
      replace BR := BR.trans (hb.mono BR.size)
      replace BW := BW.trans (hb.mono BW.size)
      clear hb kk hu hu2 hu'
      go_wp2_with fail
      (with_reducible refine ki.mono ?_)
      rintro e w5 ⟨rfl, hb⟩
      replace BR := BR.trans (hb.mono BR.size)
      replace BW := BW.trans (hb.mono BW.size)
      clear hb ki
      have kk := HX.out.2.2.1 _ BR
      go_wp2_with fail
      (with_reducible refine kk.mono ?_)
      rintro e w6 ⟨rfl, hb⟩
      replace BR := BR.trans (hb.mono BR.size)
      replace BW := BW.trans (hb.mono BW.size)
      clear hb kk
      have kk := HX.out.2.2.2 _ BR
      go_wp2_with fail
      (with_reducible refine kk.mono ?_)
      rintro e w7 ⟨rfl, hb⟩
      have HB7 := Lib.hid (BW.trans (hb.mono BW.size))
      clear hb kk BR BW
      go_wp2_with fail
      go_ret
      exact ⟨by first | rfl | (simp; done) | (simp; omega), HB7.out⟩
set_option maxRecDepth 100000 in
theorem lifted (os : Os) (started : os.Started) (H : Type) (enc : TypeId × Value → H) :
    ReturnsInHanded {} Try.checked os 6 .any (Rows.clusterMovesSpec.pre6 enc Try.prog Try.f6 Rows.clusterMovesRow.domain false) (Rows.clusterMovesSpec.post enc Try.prog Try.f6 false true false false) := by
  refine returnsInHanded_of_change (C := Try.checked) own started (by kernel_rfl) Try.func6
    (ChangeSpec.witness6 (enc := enc) (C := Try.checked) false ⟨#[], #[.slice none 0 0, .slice none 0 0, .int .i32 0, .int .u8 0], []⟩ 8 (by kernel_rfl) (by kernel_rfl) (by kernel_rfl) (by kernel_rfl)) ?_
  intro W base args ds gs before hval0 hW hcnd _
  have hval : ∀ (j : Nat) t v, Try.f6.params[j]? = some t → args[j]? = some v → Value.okWide Try.prog W .any base t v := hval0
  have hW' := hW
  obtain ⟨p, q, hA0, hV, rfl, hfz, hnd⟩ := hW
  have hA : DataW.TrodAll enc Try.prog W 0 (fun _ => true) true Try.f6.params.toList args.toList ds p := hA0
  rw [Try.params6] at hA hval
  obtain ⟨v0, vs0, d0, ds0, p0, q0, hargs, rfl, rfl, h0, r0⟩ := trodAll_cons hA
  obtain ⟨v1, vs1, d1, ds1, p1, q1, rfl, rfl, rfl, h1, r1⟩ := trodAll_cons r0
  obtain ⟨v2, vs2, d2, ds2, p2, q2, rfl, rfl, rfl, h2, r2⟩ := trodAll_cons r1
  obtain ⟨v3, vs3, d3, ds3, p3, q3, rfl, rfl, rfl, h3, r3⟩ := trodAll_cons r2
  obtain ⟨rfl, rfl, rfl⟩ := trodAll_nil r3
  obtain rfl : args = #[v0, v1, v2, v3] := by cases args; simp_all
  obtain ⟨rfl, rfl⟩ := trodVars_none hV
  obtain ⟨a0, len0, cap0, rfl⟩ := okWide_slice Try.underlying45 (hval 0 45 v0 rfl rfl)
  have k0 := h0
  have lt0 : ∀ x ∈ p0, x.block < W.heap.size := by obtain ⟨m, hm⟩ := k0; exact DataW.trod_lt m _ _ _ hm
  obtain ⟨z0, w0⟩ : ∃ zs, IsRow .i32 W a0 len0 cap0 zs := by
    obtain ⟨fuel, hf⟩ := h0
    rcases open_ints Try.underlying45 Try.underlying21 (by kernel_rfl) hf with ⟨hcs, _⟩ | ⟨x, l, c, zs, hcs, _, hl, hm, hz, _, hcell, hwz⟩
    · simp [Value.cells] at hcs
      obtain ⟨rfl, rfl, rfl⟩ := hcs
      exact ⟨[], .inl ⟨rfl, rfl, rfl, rfl⟩⟩
    · simp [Value.cells] at hcs
      obtain ⟨rfl, rfl, rfl⟩ := hcs
      exact ⟨zs, .inr ⟨_, rfl, hl, hm, by simpa using hz, hcell, hwz⟩⟩
  obtain ⟨a1, len1, cap1, rfl⟩ := okWide_slice Try.underlying46 (hval 1 46 v1 rfl rfl)
  have k1 := h1
  have lt1 : ∀ x ∈ p1, x.block < W.heap.size := by obtain ⟨m, hm⟩ := k1; exact DataW.trod_lt m _ _ _ hm
  obtain ⟨z1, w1⟩ : ∃ zs, IsRow .u16 W a1 len1 cap1 zs := by
    obtain ⟨fuel, hf⟩ := h1
    rcases open_ints Try.underlying46 Try.underlying42 (by kernel_rfl) hf with ⟨hcs, _⟩ | ⟨x, l, c, zs, hcs, _, hl, hm, hz, _, hcell, hwz⟩
    · simp [Value.cells] at hcs
      obtain ⟨rfl, rfl, rfl⟩ := hcs
      exact ⟨[], .inl ⟨rfl, rfl, rfl, rfl⟩⟩
    · simp [Value.cells] at hcs
      obtain ⟨rfl, rfl, rfl⟩ := hcs
      exact ⟨zs, .inr ⟨_, rfl, hl, hm, by simpa using hz, hcell, hwz⟩⟩
  obtain ⟨a2, rfl, rfl, rfl, w2⟩ := open_int Try.underlying21 (hval 2 21 v2 rfl rfl) h2
  obtain ⟨a3, rfl, rfl, rfl, w3⟩ := open_int Try.underlying5 (hval 3 5 v3 rfl rfl) h3
  clear hA0 hval0
  refine (walk a0 len0 cap0 z0 a1 len1 cap1 z1 a2 a3 W w0 w1 w2 w3).mono fun e W' ⟨he, bel⟩ => ?_
  subst he
  exact ⟨_, rfl, _, _, _, [], _, [], hW', trodAll_mk1 (shut_bool Try.underlying4 _), (trodAll_cons_mk (Below.trod laidOut (by kernel_rfl) (of_decide_eq_true (by kernel_rfl)) k0 bel lt0) (trodAll_cons_mk (Below.trod laidOut (by kernel_rfl) (of_decide_eq_true (by kernel_rfl)) k1 bel lt1) (trodAll_cons_mk (shut_int Try.underlying21 w2) (trodAll_cons_mk (shut_int Try.underlying5 w3) trodAll_mk0)))), rfl, bel.frame _, fun h => by cases h⟩

theorem over : Rows.clusterMovesRow.holds Try.pinned (OpenSpec.ofChange Rows.clusterMovesSpec) :=
  OpenClaim.holds_of_wide 6 Try.f6 rfl rfl rfl rfl rfl rfl rfl ⟨rfl, rfl, rfl, rfl, rfl⟩ rfl rfl rfl rfl rfl (by kernel_rfl) Try.func6 (by kernel_rfl)
    (of_decide_eq_true (by kernel_rfl)) (by unfold Func.isWrapper; first | (rw [if_pos (by decide +kernel)]; kernel_rfl) | (rw [if_neg (by decide +kernel)]; exact ⟨rfl, rfl⟩))
    (fun os started H enc _ => lifted os started H enc)

theorem proved : Rows.ClusterMovesSaid := over
end Go.Proofs.Ytefjdmbioclddaa.ClusterMoves
