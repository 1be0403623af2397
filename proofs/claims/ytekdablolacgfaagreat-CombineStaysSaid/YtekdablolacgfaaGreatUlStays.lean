/- CombineStays: a server that leads goes on leading, as long as it is kept, and no other one's stratum is better than its. Bound of DOC.md. -/
import Derived.Test.YtekdablolacgfaaGreatCqW
import Derived.Test.YtekdablolacgfaaGreatCqI
import Derived.Test.YtekdablolacgfaaGreatQtE
import Derived.Lib.QuietBelow
import Derived.Laws.MakeOwn
import Derived.WalkKit
import Derived.WalkSpells
import Derived.WalkLawsBesides
import Derived.Lib.Hide
import Derived.Handy
import Derived.ProofKit
import Derived.OpenShut
import Derived.ShutString
import Derived.ChangeOld
import Derived.Below
namespace Go.Proofs.YtekdablolacgfaaGreat.CombineStays
open Go.Proofs.YtekdablolacgfaaGreat.W
open Go.ChangeShapes Go.WideShapes Go.ChangeAt Go.RowKit
open Go.ChangeMaps (open_string shut_string)
set_option linter.unusedVariables false
theorem own : ownKnob Tryz.prog.godebug = none := by kernel_rfl
theorem laidOut : laidOutB Tryz.prog = true := by kernel_rfl
open Go.Sort
set_option linter.unusedSimpArgs false
theorem info_srv18 : (Tryz.prog.info? 30).map (fun i => (i.zero, i.size, i.bytes)) = some (some (.agg #[.int .i64 0, .int .i64 0, .int .u32 0, .int .i64 0, .int .i64 0, .int .i64 0, .int .i64 0, .int .i64 0, .int .i64 0, .int .i64 0, .int .u8 0]), 11, 88) := by kernel_rfl
theorem info_int18 : (Tryz.prog.info? 3).map (fun i => (i.zero, i.size, i.bytes)) = some (some (.int .i64 0), 1, 8) := by kernel_rfl
theorem clamp100 (x : Int) : 0 ≤ clampI x 0 100 ∧ clampI x 0 100 ≤ 100 := by
  unfold clampI cutI
  split
  · omega
  · split <;> omega
theorem info_u3218 : (Tryz.prog.info? 28).map (fun i => (i.zero, i.size, i.bytes)) = some (some (.int .u32 0), 1, 4) := by kernel_rfl
theorem bt18 {w X v : World} (h : Below X.heap.size X v) (g : Below w.heap.size w X) : Below w.heap.size w v := g.trans (h.mono g.size)
theorem ba18 {w X : World} (g : Below w.heap.size w X) (o : Obj) : Below w.heap.size w (X.alloc o) := g.alloc g.size o
theorem laid2_18 (X : World) (o1 o2 : Obj) : ((X.alloc o1).alloc o2).heap[X.heap.size + 1]? = some o2 := by
  have := heap_alloc_new (X.alloc o1) o2
  rwa [World.size_alloc] at this
theorem ids_sl18 {W : World} {β n : Nat} {t : TypeId} (h : W.heap[β]? = some (.cells (madeCells #[.int .u32 0] (n * 1)) t (0, 0))) : SlAt (fun b => b = β) 1 (oneE .u32) W (.slice (some ⟨β, 0, none⟩) n n) (List.replicate n 0) := by
  refine .inr ⟨β, 0, n, by rw [List.length_replicate], rfl, fun i x hx j u hu => ?_⟩
  obtain ⟨hi, rfl⟩ := List.getElem?_eq_some_iff.1 hx
  rw [List.length_replicate] at hi
  rw [List.getElem_replicate] at hu
  have hj : j = 0 := by
    have := (List.getElem?_eq_some_iff.1 hu).1
    simpa [oneE] using this
  subst hj
  have hu' : u = .int .u32 0 := by simpa [oneE, eq_comm] using hu
  subst hu'
  rw [Nat.mul_one, Nat.zero_add, Nat.add_zero]
  simp [World.cell?, h, madeCells, hi, Nat.mod_one]
set_option maxRecDepth 100000 in
set_option maxHeartbeats 25600000 in
theorem walk (a1 : Option Addr) (len1 cap1 : Nat) (zs : List Int) (k : Int) (w : World) (iw : IsRow .u8 w a1 len1 cap1 zs) (wk : (Lit.int .u8 k).wf = true) :
    Calls Tryz.prog 3 #[.slice a1 len1 cap1, .int .u8 k] w fun e w' => e = .returned (.bool true) ∧ Below w.heap.size w w' := by
  have bk := bounds_u8 wk
  obtain ⟨z, hz0', tz, sz⟩ := iw.sl
  clear iw wk
  subst hz0'
  have cs := shown18_any
  have tZ : ∀ b ∈ z, 0 ≤ b ∧ b ≤ 255 := fun b hb => by have := u8_bounds (tz b hb); omega
  clear tz
  by_cases g1 : 30 < z.length
  · have i1 : (30 : Int) < z.length := by omega
    clear sz
    go_enter Tryz.func3, Tryz.ntmps3
    go_wp2_with fail
    (with_reducible refine (cs _).mono ?_)
    rintro e w1 ⟨rfl, B1⟩
    go_wp2_with fail
    go_ret
    exact ⟨rfl, B1⟩
  have i1 : ¬ (30 : Int) < z.length := by omega
  rcases Nat.eq_zero_or_pos z.length with he | he
  · have hlz : ((z.length : Int) == 0) = true := beq_iff_eq.2 (by omega)
    clear sz he
    go_enter Tryz.func3, Tryz.ntmps3
    go_wp2_with fail
    (with_reducible refine (cs _).mono ?_)
    rintro e w1 ⟨rfl, B1⟩
    go_wp2_with fail
    go_ret
    exact ⟨rfl, B1⟩
  have hlz : ((z.length : Int) == 0) = false := beq_eq_false_iff_ne.2 (by omega)
  obtain ⟨i0, hi0, hz0, hz1, hz2⟩ := info_parts info_srv18
  obtain ⟨j0, hj0, hy0, hy1, hy2⟩ := info_parts info_int18
  have SZ := Lib.hid sz
  have TZ := Lib.hid tZ
  clear sz tZ g1
  go_enter Tryz.func3, Tryz.ntmps3
  go_wp2_with fail
  (with_reducible refine (cs _).mono ?_)
  rintro e w1 ⟨rfl, B1⟩
  have H1 := Lib.hid B1
  clear B1
  have ownS := (ownsRow_fresh w1 30 11 w1.heap.size (Nat.le_refl _)).alloc (.cells #[] 3)
  have ownT := ownsRow_fresh (w1.alloc (.cells #[] 30)) 3 1 w1.heap.size (by simp)
  rw [World.size_alloc] at ownT
  have bS := ((Below.refl w1.heap.size w1).alloc (Nat.le_refl _) (.cells #[] 30)).alloc (by simp) (.cells #[] 3)
  have hap0 : Apa (.slice (some ⟨w1.heap.size, 0, none⟩) 0 0) (.slice (some ⟨w1.heap.size + 1, 0, none⟩) 0 0) := fun b h1 h2 => by
    simp [Value.ownBlock] at h1 h2
    omega
  go_wp2_with fail
  go_loopw [5, 6, 7, 8] (fun o d be i wr => ∃ q : Nat, q ≤ z.length ∧ i = .int .i64 (q : Int) ∧ be = .int .i64 (bestZ z q) ∧ Apa o d ∧ wr.ownsRow w1.heap.size 30 11 o q (((stsL z).take q).flatMap svC) ∧ wr.ownsRow w1.heap.size 3 1 d q (((kpL z.length).take q).flatMap (oneE .i64)) ∧ Below w1.heap.size w1 wr) (fun _ _ _ i _ => z.length - (intOf i).toNat)
  case atStart => exact ⟨0, Nat.zero_le _, rfl, rfl, hap0, ownS, ownT, bS⟩
  case round =>
    obtain ⟨q, hq, rfl, rfl, hap, own1, own2, hB⟩ := hrel
    clear ownS ownT bS hap0
    have z1 := hB.size
    have BWr := H1.out.trans (hB.mono H1.out.size)
    by_cases hlt : q < z.length
    · have i2 : (q : Int) < z.length := by omega
      have i0' : (0 : Int) ≤ (q : Int) := by omega
      obtain ⟨b, hb⟩ : ∃ b, z[q]? = some b := ⟨_, List.getElem?_eq_getElem hlt⟩
      have hbb := TZ.out b (List.mem_of_getElem? hb)
      rcases SZ.out with ⟨_, _, _, _, hnil⟩ | ⟨bz, oz, cz, hvz, hFz, ez⟩
      · rw [hnil] at hlt; simp at hlt
      obtain ⟨rfl, _, rfl⟩ := Value.slice.inj hvz
      have cell0 : w.cell? ⟨bz, oz + q, none⟩ = some (.int .u8 b) := by
        have := ez q b hb 0 _ rfl
        simpa using this
      have cell1 := (BWr.cell hFz).trans cell0
      obtain ⟨m, hm⟩ : ∃ m, b % 16 = m := ⟨_, rfl⟩
      have hm' := hm
      have hrem : Int.tmod b 16 = m := by rw [← hm, Int.tmod_eq_emod_of_nonneg hbb.1]
      have hwb : IntKind.i64.wrap b = b := by rw [IntKind.wrap_i64]; omega
      have hwm : IntKind.i64.wrap m = m := by rw [IntKind.wrap_i64]; omega
      have hgd : z.getD q 0 = b := by simp [List.getD, hb]
      have hst : stS z q = ⟨0, m, 0, 0, 0, ⟨(q : Int), 0, 0, 0, 0⟩, 1⟩ := by unfold stS; rw [hgd, hm]
      have t1 : (stsL z).take (q + 1) = (stsL z).take q ++ [stS z q] := take_next _ _ _ (sts_at hlt)
      have t2 : (kpL z.length).take (q + 1) = (kpL z.length).take q ++ [(q : Int)] := take_next _ _ _ (kp_at hlt)
      rw [hst] at t1
      have hbs := best_step hb
      rw [hm] at hbs
      obtain ⟨be, hbe⟩ : ∃ be, bestZ z q = be := ⟨_, rfl⟩
      obtain ⟨bf, hbf⟩ : ∃ bf, min be m = bf := ⟨_, rfl⟩
      rw [hbe, hbf] at hbs
      have f1 := fun ts t W => run_min18 .i64 be m bf hbf ts t W
      rw [hbe]
      have TK := Lib.hid (And.intro t1 (And.intro t2 hbs))
      have HZ := Lib.hid (And.intro hFz cell0)
      clear t1 t2 hbs hbe hbf hst hgd hm hb ez hvz cell0
      go_upto_region 10 with (at_builtin; refine wpList_append_own_at _ rfl _ _ 24 rfl w1.heap.size 30 i0 _ 11 88 Tryz.underlying24 hi0 hz0 hz1 hz2 rfl (by decide) _ _ _ rfl (own1.alloc _) ⟨wr.heap.size, 0, none⟩ 1 1 (svC ⟨0, m, 0, 0, 0, ⟨(q : Int), 0, 0, 0, 0⟩, 1⟩) rfl rfl (sv_row18 wr ⟨0, m, 0, 0, 0, ⟨(q : Int), 0, 0, 0, 0⟩, 1⟩ _) (svC_one18 _) (by unfold maxLen; omega) (by omega) (by simp; omega) ?_; intro v4 w4 hown4 hgrow4 _ hat4)
      have own4 : w4.ownsRow w1.heap.size 30 11 v4 (q + 1) (((stsL z).take (q + 1)).flatMap svC) := by
        rw [TK.out.1, List.flatMap_append]
        simpa using hown4
      have B4 := (hB.alloc z1 (.cells (svA ⟨0, m, 0, 0, 0, ⟨(q : Int), 0, 0, 0, 0⟩, 1⟩) 30)).grown hgrow4 (by simp; omega) (fun g hg => (own1.lt g hg).1)
      have z4 := B4.size
      have p4 := (own2.alloc (.cells (svA ⟨0, m, 0, 0, 0, ⟨(q : Int), 0, 0, 0, 0⟩, 1⟩) 30)).kept hgrow4 (apart_ne hap)
      have ap4 := apart_left (H := wr.heap.size + 1) hap hat4 (by simp) (fun b hb => by have := (own2.lt b hb).2; omega)
      clear hat4 hgrow4 hown4 own1 own2 hap cell1 BWr hrem hwb hwm
      go_upto_region 11 with (at_builtin; refine wpList_append_own_at _ rfl _ _ 25 rfl w1.heap.size 3 j0 _ 1 8 Tryz.underlying25 hj0 hy0 hy1 hy2 rfl (by decide) _ _ _ rfl (p4.alloc _) ⟨w4.heap.size, 0, none⟩ 1 1 [.int .i64 (q : Int)] rfl rfl (new_row15 _ _ _) (by intro u hu; simp at hu; subst hu; rfl) (by unfold maxLen; omega) (by omega) (by simp; omega) ?_; intro v5 w5 hown5 hgrow5 _ hat5)
      have own5 : w5.ownsRow w1.heap.size 3 1 v5 (q + 1) (((kpL z.length).take (q + 1)).flatMap (oneE .i64)) := by
        rw [TK.out.2.1, List.flatMap_append]
        exact hown5
      have B5 := (B4.alloc z4 (.cells #[.int .i64 (q : Int)] 3)).grown hgrow5 (by simp; omega) (fun g hg => (p4.lt g hg).1)
      have r5 := (own4.alloc (.cells #[.int .i64 (q : Int)] 3)).kept hgrow5 (apart_ne (apart_symm ap4))
      have ap5 := apart_symm (apart_left (H := w4.heap.size + 1) (apart_symm ap4) hat5 (by simp) (fun b hb => by have := (own4.lt b hb).2; omega))
      have cell5 : w5.cell? ⟨bz, oz + q, none⟩ = some (.int .u8 b) := ((H1.out.trans (B5.mono H1.out.size)).cell HZ.out.1).trans HZ.out.2
      have hrem : Int.tmod b 16 = m := by rw [← hm', Int.tmod_eq_emod_of_nonneg hbb.1]
      have hwb : IntKind.i64.wrap b = b := by rw [IntKind.wrap_i64]; omega
      have hwm : IntKind.i64.wrap m = m := by rw [IntKind.wrap_i64]; omega
      have RR := Lib.hid (And.intro ap5 (And.intro r5 (And.intro own5 B5)))
      clear hat5 hgrow5 hown5 own4 B4 z4 p4 ap4 own5 B5 r5 ap5 z1 hB
      go_wp2_with fail
      go_roundw
      case rel => exact ⟨q + 1, by omega, by go_num, by rw [TK.out.2.2], RR.out.1, RR.out.2.1, RR.out.2.2.1, RR.out.2.2.2⟩
      case measure => simp [intOf]; omega
    · have eq : q = z.length := by omega
      subst eq
      generalize wr = wo at *
      have hO : (stsL z).take z.length = stsL z := List.take_of_length_le (by rw [sts_length]; exact Nat.le_refl _)
      have hK : (kpL z.length).take z.length = kpL z.length := List.take_of_length_le (by rw [kp_length]; exact Nat.le_refl _)
      rw [hO] at own1
      rw [hK] at own2
      have hS := SlAt.own (k := 11) (enc := svC) (l := stsL z) svC_len18 (by rw [sts_length]; exact own1)
      have hD := SlAt.own (k := 1) (enc := oneE .i64) (l := kpL z.length) (fun _ => rfl) (by rw [kp_length]; exact own2)
      obtain ⟨x5, c5, rfl⟩ := hS.slice
      obtain ⟨x6, c6, rfl⟩ := hD.slice
      obtain ⟨kn, rfl⟩ : ∃ kn : Nat, k = (kn : Int) := ⟨k.toNat, by omega⟩
      obtain ⟨old, hold⟩ : ∃ old, kn % z.length = old := ⟨_, rfl⟩
      have hon : old < z.length := by rw [← hold]; exact Nat.mod_lt _ he
      have hrem : Int.tmod (kn : Int) (z.length : Int) = (old : Int) := by rw [← hold]; rfl
      have hwk : IntKind.i64.wrap (kn : Int) = (kn : Int) := by rw [IntKind.wrap_i64]; omega
      have hwo : IntKind.i64.wrap (old : Int) = (old : Int) := by rw [IntKind.wrap_i64]; omega
      have tS : ∀ s ∈ stsL z, s.Typed := fun s hs => by
        obtain ⟨i, hi, rfl⟩ := List.mem_map.1 hs
        rw [List.mem_range] at hi
        have hx : z.getD i 0 ∈ z := by
          have e : z.getD i 0 = z[i] := by simp [List.getD, hi]
          rw [e]
          exact List.getElem_mem hi
        have hb := TZ.out _ hx
        refine ⟨?_, ?_, ?_, ?_, ?_, ⟨?_, ?_, ?_, ?_, ?_⟩, ?_⟩ <;> (unfold stS; dsimp only; omega)
      have tK : ∀ x ∈ kpL z.length, -9223372036854775808 ≤ x ∧ x ≤ 9223372036854775807 := fun x hx => by
        obtain ⟨i, hi, rfl⟩ := List.mem_map.1 hx
        rw [List.mem_range] at hi
        omega
      have cc := cchoose_any (stsL z) tS (by rw [sts_length]; omega) (kpL z.length) (by rw [kp_length]; omega) tK (old : Int) (by omega) wo hS hD (fun b hb => hb.2) (fun b hb => hb.2)
      have hld := lead_sts hon
      obtain ⟨c, hc, hcn, hco⟩ : ∃ c : Nat, leadI (stsL z) (kpL z.length) (old : Int) = (c : Int) ∧ c < z.length ∧ (c = old ∧ z.getD old 0 % 16 ≤ z.getD 0 0 % 16 ∨ c = 0 ∧ z.getD 0 0 % 16 < z.getD old 0 % 16) := by
        by_cases g : z.getD old 0 % 16 ≤ z.getD 0 0 % 16
        · exact ⟨old, by rw [hld, if_pos g], hon, .inl ⟨rfl, g⟩⟩
        · exact ⟨0, by rw [hld, if_neg g]; rfl, he, .inr ⟨rfl, by omega⟩⟩
      have hbl := best_le z z.length 0 he (Nat.le_refl _)
      have CO := Lib.hid (And.intro hc (And.intro hco hbl))
      have TT := Lib.hid (And.intro tS tK)
      have OO := Lib.hid (And.intro hS (And.intro hD hB))
      rw [hc] at cc
      rw [sts_length, kp_length] at *
      clear own1 own2 hap hB hO hK hS hD hold tS tK hld hc hco hbl z1 BWr
      go_wp2_with fail
      (with_reducible refine cc.mono ?_)
      rintro e w6 ⟨rfl, B6⟩
      obtain ⟨b5, o5, rfl, s14⟩ := str_at18 (F := fun b => w1.heap.size ≤ b ∧ b < wo.heap.size) (l := stsL z) (x := x5) (c := c5) (k := (old : Int)) (by rw [sts_length]; exact OO.out.1) (fun b hb => hb.2) B6 (by omega) (by rw [sts_length]; omega)
      obtain ⟨b6, o6, hx6, s17⟩ := str_at18 (F := fun b => w1.heap.size ≤ b ∧ b < wo.heap.size) (l := stsL z) (x := some ⟨b5, o5, none⟩) (c := c5) (k := (c : Int)) (by rw [sts_length]; exact OO.out.1) (fun b hb => hb.2) B6 (by omega) (by rw [sts_length]; omega)
      obtain ⟨rfl, rfl⟩ : b5 = b6 ∧ o5 = o6 := by simpa using hx6
      rw [Int.toNat_natCast, sts_str hon] at s14
      rw [Int.toNat_natCast, sts_str hcn] at s17
      obtain ⟨so, hso⟩ : ∃ so, z.getD old 0 % 16 = so := ⟨_, rfl⟩
      obtain ⟨sc, hsc⟩ : ∃ sc, z.getD c 0 % 16 = sc := ⟨_, rfl⟩
      obtain ⟨be, hbe⟩ : ∃ be, bestZ z z.length = be := ⟨_, rfl⟩
      rw [hso] at s14
      rw [hsc] at s17
      rw [hbe]
      have hcase : ((so == be) = true ∧ ((c : Int) != (old : Int)) = false) ∨ ((so == be) = false ∧ True) := by
        have h := CO.out.2
        rw [hso, hbe] at h
        by_cases g : so = be
        · left
          refine ⟨beq_iff_eq.2 g, ?_⟩
          have : c = old := by omega
          subst this
          simp
        · exact .inr ⟨beq_eq_false_iff_ne.2 g, trivial⟩
      have S17 := Lib.hid (And.intro s17 (And.intro hso (And.intro hsc hbe)))
      have O6 := Lib.hid (And.intro (OO.out.1.kept fun b hb => B6.block b hb.2) (And.intro (OO.out.2.1.kept fun b hb => B6.block b hb.2) (And.intro (OO.out.2.2.trans (B6.mono OO.out.2.2.size)) B6.size)))
      have olI : (old : Int) < z.length := by omega
      have ol0 : (0 : Int) ≤ (old : Int) := by omega
      clear cc hx6 s17 hso hsc hbe OO B6
      have c1 := std18_any
      have PH := std_params.typed
      generalize chkP stdC = p at *
      have hb18 : combB (stsL z) (List.replicate z.length 0) (kpL z.length) (old : Int) = true := by
        unfold combB
        exact decide_eq_true ⟨by rw [CO.out.1]; omega, by rw [List.length_replicate, sts_length]⟩
      obtain ⟨Y, hY⟩ : ∃ Y, combY p (stsL z) (List.replicate z.length 0) (kpL z.length) (old : Int) 0 100 0 = Y := ⟨_, rfl⟩
      have hYf : Y.peer = (c : Int) ∧ Y.str = sc + 1 ∧ 0 ≤ Y.off ∧ Y.off ≤ 100 := by
        rw [← hY]
        unfold combY
        rw [if_pos hb18, CO.out.1]
        refine ⟨rfl, ?_, ?_, ?_⟩
        · show min (svAt (stsL z) ((c : Int)).toNat).str 999 + 1 = sc + 1
          rw [Int.toNat_natCast, sts_str hcn, S17.out.2.2.1]
          have := S17.out.2.2.1
          omega
        · show 0 ≤ combOff p (stsL z) (kpL z.length) 0 100 0
          exact (clamp100 _).1
        · show combOff p (stsL z) (kpL z.length) 0 100 0 ≤ 100
          exact (clamp100 _).2
      have hz : ∀ x ∈ List.replicate z.length (0 : Int), 0 ≤ x ∧ x ≤ 4294967295 := fun x hx => by
        rw [List.eq_of_mem_replicate hx]
        omega
      have cK := fun W (kb : Below w6.heap.size w6 W) (G : Nat → Prop) (vi : Value) (si : SlAt G 1 (oneE .u32) W vi (List.replicate z.length 0)) (hG : ∀ b, G b → b < W.heap.size) => ccomb_any p PH (stsL z) TT.out.1 (by rw [sts_length]; omega) (List.replicate z.length 0) (by rw [List.length_replicate]; omega) hz (kpL z.length) (by rw [kp_length]; omega) TT.out.2 (old : Int) 0 100 0 (by omega) (by omega) (by omega) (by omega) W (O6.out.1.kept fun b hb => kb.block b (Nat.lt_of_lt_of_le hb.2 O6.out.2.2.2)) si (O6.out.2.1.kept fun b hb => kb.block b (Nat.lt_of_lt_of_le hb.2 O6.out.2.2.2)) (fun b hb => Nat.lt_of_lt_of_le (Nat.lt_of_lt_of_le hb.2 O6.out.2.2.2) kb.size) (fun b hb => Nat.lt_of_lt_of_le (Nat.lt_of_lt_of_le hb.2 O6.out.2.2.2) kb.size) hG
      rw [hY, hb18] at cK
      have YF := Lib.hid hYf
      unfold Pm.val at cK c1
      unfold Sy.val Sy.cells at cK
      clear hY hYf hz hb18 PH
      obtain ⟨l0, hl0, hx0, hx1, hx2⟩ := info_parts info_u3218
      have hm1 : ∀ W, (Instr.makeSlice 39 (.int .i64 (z.length : Int)) (.int .i64 (z.length : Int))).run Tryz.prog W = .ok (.slice (some ⟨W.heap.size, 0, none⟩) z.length z.length) (W.alloc (.cells (madeCells #[.int .u32 0] (z.length * 1)) 28)) := fun W => by
        have := run_make (P := Tryz.prog) W 39 28 l0 (.int .u32 0) Tryz.underlying39 hl0 hx0 .i64 .i64 z.length z.length (by omega) (by omega) (by rw [hx2]; omega) (by omega)
        rw [hx1, show ((z.length : Int)).toNat = z.length by omega] at this
        exact this
      have ids := fun (W : World) (β : Nat) (h : W.heap[β]? = some (.cells (madeCells #[.int .u32 0] (z.length * 1)) 28 (0, 0))) => ids_sl18 (n := z.length) h
      generalize madeCells #[.int .u32 0] (z.length * 1) = RR at *
      have KC := Lib.hid (And.intro cK ids)
      clear cK ids hl0 hx0 hx1 hx2
      rcases hcase with ⟨e1, e2⟩ | ⟨e1, e2⟩
      · go_upto_region 16 with fail
        refine wp_region_noPanic ?_
        refine wp_region_grow 14 7 [0, 1, 2, 3, 5, 6, 7] (by kernel_rfl) (by kernel_rfl) (fun _ _ _ _ _ h => h) (fun sh => ?_)
        simp only [List.filterMap_cons, List.filterMap_nil, List.getElem?_toArray, List.getElem?_cons_succ, List.getElem?_cons_zero]
        repeat (refine wpG_step (fun K hK => ?_); go_simp; first | (refine hK _ ?_; clear hK K) | (apply Exists.intro; refine ⟨fun _ => ?_, hK _ ?_⟩; (exact c1 _); clear hK K))
        refine wpG_nil ?_
        intro v0 hv0 iv
        apply mergeG
        · intro key
          refine headG_two (i := 4) (k := 12) (by kernel_rfl) ?_ ?_
          · skip
            refine OneG.step rfl (fun K hK => ?_)
            go_simp
            have n0 := heap_alloc_new v0 (.cells RR 28)
            refine hK _ _ (regrown_of_below (ba18 hv0 (.cells RR 28))) ?_
            clear hK K
            intro v1f hv1f
            have n1 := (hv1f.block _ (Array.getElem?_eq_some_iff.1 n0).1).trans n0
            have Bv1f := bt18 hv1f (ba18 hv0 (.cells RR 28))
            refine headG_two (i := 8) (k := 12) (by kernel_rfl) ?_ ?_
            · skip
              refine OneG.step rfl (fun K hK => ?_)
              go_simp
              refine (KC.out.1 _ Bv1f _ _ (KC.out.2 _ _ n1) (by intro b hb; subst hb; exact (Array.getElem?_eq_some_iff.1 n1).1)).mono ?_
              rintro e vc ⟨rfl, gc⟩
              refine hK _ _ (regrown_of_below (bt18 gc Bv1f)) ?_
              clear hK K
              intro v2a hv2a
              have Bv2a := bt18 hv2a (bt18 gc Bv1f)
              refine headG_takes (g := 2) sh [9, 10, 11] _ _ _ (inv_ok [4, 8] _ iv (by kernel_rfl)) (by kernel_rfl) (regrown_of_below Bv2a) ?_
              simp only [List.filterMap_cons, List.filterMap_nil, List.getElem?_toArray, List.getElem?_cons_succ, List.getElem?_cons_zero]
              repeat (refine wpG_step (fun K hK => ?_); go_simp; first | (refine hK _ ?_; clear hK K) | (apply Exists.intro; refine ⟨fun _ => ?_, hK _ ?_⟩; (fail); clear hK K))
              refine wpG_nil ?_
              intro v3a hv3a
              have Bv3a := bt18 hv3a Bv2a
              refine headG_one (i := 12) (by kernel_rfl) (OneG.step rfl (fun K hK => ?_))
              go_simp
              have q0 := heap_alloc_new v3a (.cells #[.int .i64 0, .int .i64 0, .int .u32 0, .int .i64 0, .int .i64 0, .int .i64 0, .int .i64 0, .int .i64 0] 33)
              have lb := Nat.le_refl v3a.heap.size
              replace lb : w6.heap.size ≤ v3a.heap.size := Bv3a.size
              refine hK _ _ (regrown_of_below (ba18 Bv3a (.cells #[.int .i64 0, .int .i64 0, .int .u32 0, .int .i64 0, .int .i64 0, .int .i64 0, .int .i64 0, .int .i64 0] 33))) ?_
              clear hK K
              intro v4a hv4a
              have m4 := (hv4a.block _ (Array.getElem?_eq_some_iff.1 q0).1).trans q0
              have Bv4a := bt18 hv4a (ba18 Bv3a (.cells #[.int .i64 0, .int .i64 0, .int .u32 0, .int .i64 0, .int .i64 0, .int .i64 0, .int .i64 0, .int .i64 0] 33))
              obtain ⟨⟨c0, c1, c2, c3, c4, c5, c6, c7⟩, fr⟩ := eight_in18 m4
              have C1 := put8_at (a0 := .int .i64 Y.leap) (a1 := .int .i64 Y.str) (a2 := .int .u32 Y.ref) (a3 := .int .i64 Y.off) (a4 := .int .i64 Y.jit) (a5 := .int .i64 Y.del) (a6 := .int .i64 Y.disp) (a7 := .int .i64 Y.peer) m4
              have C2 := put8_below Bv4a (v3a.heap.size) lb (.int .i64 Y.leap) (.int .i64 Y.str) (.int .u32 Y.ref) (.int .i64 Y.off) (.int .i64 Y.jit) (.int .i64 Y.del) (.int .i64 Y.disp) (.int .i64 Y.peer)
              unfold put8 at C1 C2
              refine headG_one (i := 13) (by kernel_rfl) (OneG.step rfl (fun K hK => ?_))
              go_simp
              refine hK _ _ (regrown_of_below C2) ?_
              clear hK K c0 c1 c2 c3 c4 c5 c6 c7 fr
              intro ve hve
              have hy := (hve.block _ (Array.getElem?_eq_some_iff.1 C1).1).trans C1
              have hB := bt18 hve C2
              refine ⟨by kernel_rfl, ?_⟩
              simp only [List.drop_succ_cons, List.drop_zero]
              go_wp2_with fail
              refine NoPanic.normal ?_
              generalize v3a.heap.size = b at hy ⊢
              generalize v0.heap.size = c at ⊢
              clear C1 C2
              revert hy hB
              exact key.out b c ve
            · skip
              refine OneG.step rfl (fun K hK => ?_)
              go_simp
              have q0 := heap_alloc_new v1f (.cells #[.int .i64 0, .int .i64 0, .int .u32 0, .int .i64 0, .int .i64 0, .int .i64 0, .int .i64 0, .int .i64 0] 33)
              have lb := Nat.le_refl v1f.heap.size
              replace lb : w6.heap.size ≤ v1f.heap.size := Bv1f.size
              have p0 := laid (.cells #[.int .i64 0, .int .i64 0, .int .u32 0, .int .i64 0, .int .i64 0, .int .i64 0, .int .i64 0, .int .i64 0] 33) n1
              refine hK _ _ (regrown_of_below (ba18 Bv1f (.cells #[.int .i64 0, .int .i64 0, .int .u32 0, .int .i64 0, .int .i64 0, .int .i64 0, .int .i64 0, .int .i64 0] 33))) ?_
              clear hK K
              intro v2a hv2a
              have m2 := (hv2a.block _ (Array.getElem?_eq_some_iff.1 q0).1).trans q0
              have n2 := (hv2a.block _ (Array.getElem?_eq_some_iff.1 p0).1).trans p0
              have Bv2a := bt18 hv2a (ba18 Bv1f (.cells #[.int .i64 0, .int .i64 0, .int .u32 0, .int .i64 0, .int .i64 0, .int .i64 0, .int .i64 0, .int .i64 0] 33))
              refine headG_one (i := 8) (by kernel_rfl) (OneG.step rfl (fun K hK => ?_))
              go_simp
              refine (KC.out.1 _ Bv2a _ _ (KC.out.2 _ _ n2) (by intro b hb; subst hb; exact (Array.getElem?_eq_some_iff.1 n2).1)).mono ?_
              rintro e vc ⟨rfl, gc⟩
              have m0 := kept m2 gc
              refine hK _ _ (regrown_of_below (bt18 gc Bv2a)) ?_
              clear hK K
              intro v3a hv3a
              have m3 := (hv3a.block _ (Array.getElem?_eq_some_iff.1 m0).1).trans m0
              have Bv3a := bt18 hv3a (bt18 gc Bv2a)
              refine headG_takes (g := 1) sh [9, 10, 11] _ _ _ (inv_ok [4, 12, 8] _ iv (by kernel_rfl)) (by kernel_rfl) (regrown_of_below Bv3a) ?_
              simp only [List.filterMap_cons, List.filterMap_nil, List.getElem?_toArray, List.getElem?_cons_succ, List.getElem?_cons_zero]
              repeat (refine wpG_step (fun K hK => ?_); go_simp; first | (refine hK _ ?_; clear hK K) | (apply Exists.intro; refine ⟨fun _ => ?_, hK _ ?_⟩; (fail); clear hK K))
              refine wpG_nil ?_
              intro v4a hv4a
              have m4 := kept m3 hv4a
              have Bv4a := bt18 hv4a Bv3a
              obtain ⟨⟨c0, c1, c2, c3, c4, c5, c6, c7⟩, fr⟩ := eight_in18 m4
              have C1 := put8_at (a0 := .int .i64 Y.leap) (a1 := .int .i64 Y.str) (a2 := .int .u32 Y.ref) (a3 := .int .i64 Y.off) (a4 := .int .i64 Y.jit) (a5 := .int .i64 Y.del) (a6 := .int .i64 Y.disp) (a7 := .int .i64 Y.peer) m4
              have C2 := put8_below Bv4a (v1f.heap.size) lb (.int .i64 Y.leap) (.int .i64 Y.str) (.int .u32 Y.ref) (.int .i64 Y.off) (.int .i64 Y.jit) (.int .i64 Y.del) (.int .i64 Y.disp) (.int .i64 Y.peer)
              unfold put8 at C1 C2
              refine headG_one (i := 13) (by kernel_rfl) (OneG.step rfl (fun K hK => ?_))
              go_simp
              refine hK _ _ (regrown_of_below C2) ?_
              clear hK K c0 c1 c2 c3 c4 c5 c6 c7 fr
              intro ve hve
              have hy := (hve.block _ (Array.getElem?_eq_some_iff.1 C1).1).trans C1
              have hB := bt18 hve C2
              refine ⟨by kernel_rfl, ?_⟩
              simp only [List.drop_succ_cons, List.drop_zero]
              go_wp2_with fail
              refine NoPanic.normal ?_
              generalize v1f.heap.size = b at hy ⊢
              generalize v0.heap.size = c at ⊢
              clear C1 C2
              revert hy hB
              exact key.out b c ve
          · skip
            refine OneG.step rfl (fun K hK => ?_)
            go_simp
            have q0 := heap_alloc_new v0 (.cells #[.int .i64 0, .int .i64 0, .int .u32 0, .int .i64 0, .int .i64 0, .int .i64 0, .int .i64 0, .int .i64 0] 33)
            have lb := Nat.le_refl v0.heap.size
            replace lb : w6.heap.size ≤ v0.heap.size := hv0.size
            refine hK _ _ (regrown_of_below (ba18 hv0 (.cells #[.int .i64 0, .int .i64 0, .int .u32 0, .int .i64 0, .int .i64 0, .int .i64 0, .int .i64 0, .int .i64 0] 33))) ?_
            clear hK K
            intro v1f hv1f
            have m1 := (hv1f.block _ (Array.getElem?_eq_some_iff.1 q0).1).trans q0
            have Bv1f := bt18 hv1f (ba18 hv0 (.cells #[.int .i64 0, .int .i64 0, .int .u32 0, .int .i64 0, .int .i64 0, .int .i64 0, .int .i64 0, .int .i64 0] 33))
            refine headG_one (i := 4) (by kernel_rfl) (OneG.step rfl (fun K hK => ?_))
            go_simp
            have n0 := heap_alloc_new v1f (.cells RR 28)
            have m0 := laid (.cells RR 28) m1
            refine hK _ _ (regrown_of_below (ba18 Bv1f (.cells RR 28))) ?_
            clear hK K
            intro v2f hv2f
            have n2 := (hv2f.block _ (Array.getElem?_eq_some_iff.1 n0).1).trans n0
            have m2 := (hv2f.block _ (Array.getElem?_eq_some_iff.1 m0).1).trans m0
            have Bv2f := bt18 hv2f (ba18 Bv1f (.cells RR 28))
            refine headG_one (i := 8) (by kernel_rfl) (OneG.step rfl (fun K hK => ?_))
            go_simp
            refine (KC.out.1 _ Bv2f _ _ (KC.out.2 _ _ n2) (by intro b hb; subst hb; exact (Array.getElem?_eq_some_iff.1 n2).1)).mono ?_
            rintro e vc ⟨rfl, gc⟩
            have m0 := kept m2 gc
            refine hK _ _ (regrown_of_below (bt18 gc Bv2f)) ?_
            clear hK K
            intro v3f hv3f
            have m3 := (hv3f.block _ (Array.getElem?_eq_some_iff.1 m0).1).trans m0
            have Bv3f := bt18 hv3f (bt18 gc Bv2f)
            refine headG_takes (g := 1) sh [9, 10, 11] _ _ _ (inv_ok [12, 4, 8] _ iv (by kernel_rfl)) (by kernel_rfl) (regrown_of_below Bv3f) ?_
            simp only [List.filterMap_cons, List.filterMap_nil, List.getElem?_toArray, List.getElem?_cons_succ, List.getElem?_cons_zero]
            repeat (refine wpG_step (fun K hK => ?_); go_simp; first | (refine hK _ ?_; clear hK K) | (apply Exists.intro; refine ⟨fun _ => ?_, hK _ ?_⟩; (fail); clear hK K))
            refine wpG_nil ?_
            intro v4f hv4f
            have m4 := kept m3 hv4f
            have Bv4f := bt18 hv4f Bv3f
            obtain ⟨⟨c0, c1, c2, c3, c4, c5, c6, c7⟩, fr⟩ := eight_in18 m4
            have C1 := put8_at (a0 := .int .i64 Y.leap) (a1 := .int .i64 Y.str) (a2 := .int .u32 Y.ref) (a3 := .int .i64 Y.off) (a4 := .int .i64 Y.jit) (a5 := .int .i64 Y.del) (a6 := .int .i64 Y.disp) (a7 := .int .i64 Y.peer) m4
            have C2 := put8_below Bv4f (v0.heap.size) lb (.int .i64 Y.leap) (.int .i64 Y.str) (.int .u32 Y.ref) (.int .i64 Y.off) (.int .i64 Y.jit) (.int .i64 Y.del) (.int .i64 Y.disp) (.int .i64 Y.peer)
            unfold put8 at C1 C2
            refine headG_one (i := 13) (by kernel_rfl) (OneG.step rfl (fun K hK => ?_))
            go_simp
            refine hK _ _ (regrown_of_below C2) ?_
            clear hK K c0 c1 c2 c3 c4 c5 c6 c7 fr
            intro ve hve
            have hy := (hve.block _ (Array.getElem?_eq_some_iff.1 C1).1).trans C1
            have hB := bt18 hve C2
            refine ⟨by kernel_rfl, ?_⟩
            simp only [List.drop_succ_cons, List.drop_zero]
            go_wp2_with fail
            refine NoPanic.normal ?_
            generalize v0.heap.size = b at hy ⊢
            generalize v1f.heap.size = c at ⊢
            clear C1 C2
            revert hy hB
            exact key.out b c ve
        · intro b β W hB hy
          have BT := Lib.hid (H1.out.trans ((O6.out.2.2.1.trans (hB.mono O6.out.2.2.1.size)).mono H1.out.size))
          obtain ⟨⟨y0, y1, y2, y3, y4, y5, y6, y7⟩, _⟩ := eight_in18 hy
          obtain ⟨yp, ys, yo0, yo1⟩ := YF.out
          rw [ys] at y1
          rw [yp] at y7
          have s17 := (hB.cell (cell_lt18 S17.out.1)).trans S17.out.1
          have hsc := S17.out.2.2.1
          have hwr : IntKind.i64.wrap (sc + 1) = sc + 1 := by rw [IntKind.wrap_i64]; omega
          have d3 : decide (0 ≤ Y.off) = true := decide_eq_true yo0
          have d4 : decide (Y.off ≤ 100) = true := decide_eq_true yo1
          have cnI : (c : Int) < z.length := by omega
          have cn0 : (0 : Int) ≤ (c : Int) := by omega
          generalize Y.off = yo at *
          clear hy hB y0 y2 y4 y5 y6 yp ys hsc
          by_cases g : c = old
          · have g1 : ((c : Int) == (old : Int)) = true := by rw [g]; exact beq_self_eq_true _
            have G := Lib.hid g
            clear g
            go_wp2_with fail
            go_quiet (fail)
            have BD := Lib.hid (below_drewN BT.out nq)
            go_wp2_with fail
            go_ret
            exact ⟨rfl, BD.out⟩
          · have g1 : ((c : Int) == (old : Int)) = false := beq_eq_false_iff_ne.2 (by omega)
            have hc0 : c = 0 := by
              rcases CO.out.2.1 with h | h
              · exact absurd h.1 g
              · exact h.1
            have g2 : ((c : Int) == 0) = true := by rw [hc0]; rfl
            have G := Lib.hid (And.intro g hc0)
            clear g hc0
            go_wp2_with fail
            go_quiet (fail)
            have BD := Lib.hid (below_drewN BT.out nq)
            go_wp2_with fail
            go_ret
            exact ⟨rfl, BD.out⟩
      · go_upto_region 16 with fail
        refine wp_region_noPanic ?_
        refine wp_region_grow 14 7 [0, 1, 2, 3, 5, 6, 7] (by kernel_rfl) (by kernel_rfl) (fun _ _ _ _ _ h => h) (fun sh => ?_)
        simp only [List.filterMap_cons, List.filterMap_nil, List.getElem?_toArray, List.getElem?_cons_succ, List.getElem?_cons_zero]
        repeat (refine wpG_step (fun K hK => ?_); go_simp; first | (refine hK _ ?_; clear hK K) | (apply Exists.intro; refine ⟨fun _ => ?_, hK _ ?_⟩; (exact c1 _); clear hK K))
        refine wpG_nil ?_
        intro v0 hv0 iv
        apply mergeG
        · intro key
          refine headG_two (i := 4) (k := 12) (by kernel_rfl) ?_ ?_
          · skip
            refine OneG.step rfl (fun K hK => ?_)
            go_simp
            have n0 := heap_alloc_new v0 (.cells RR 28)
            refine hK _ _ (regrown_of_below (ba18 hv0 (.cells RR 28))) ?_
            clear hK K
            intro v1f hv1f
            have n1 := (hv1f.block _ (Array.getElem?_eq_some_iff.1 n0).1).trans n0
            have Bv1f := bt18 hv1f (ba18 hv0 (.cells RR 28))
            refine headG_two (i := 8) (k := 12) (by kernel_rfl) ?_ ?_
            · skip
              refine OneG.step rfl (fun K hK => ?_)
              go_simp
              refine (KC.out.1 _ Bv1f _ _ (KC.out.2 _ _ n1) (by intro b hb; subst hb; exact (Array.getElem?_eq_some_iff.1 n1).1)).mono ?_
              rintro e vc ⟨rfl, gc⟩
              refine hK _ _ (regrown_of_below (bt18 gc Bv1f)) ?_
              clear hK K
              intro v2a hv2a
              have Bv2a := bt18 hv2a (bt18 gc Bv1f)
              refine headG_takes (g := 2) sh [9, 10, 11] _ _ _ (inv_ok [4, 8] _ iv (by kernel_rfl)) (by kernel_rfl) (regrown_of_below Bv2a) ?_
              simp only [List.filterMap_cons, List.filterMap_nil, List.getElem?_toArray, List.getElem?_cons_succ, List.getElem?_cons_zero]
              repeat (refine wpG_step (fun K hK => ?_); go_simp; first | (refine hK _ ?_; clear hK K) | (apply Exists.intro; refine ⟨fun _ => ?_, hK _ ?_⟩; (fail); clear hK K))
              refine wpG_nil ?_
              intro v3a hv3a
              have Bv3a := bt18 hv3a Bv2a
              refine headG_one (i := 12) (by kernel_rfl) (OneG.step rfl (fun K hK => ?_))
              go_simp
              have q0 := heap_alloc_new v3a (.cells #[.int .i64 0, .int .i64 0, .int .u32 0, .int .i64 0, .int .i64 0, .int .i64 0, .int .i64 0, .int .i64 0] 33)
              have lb := Nat.le_refl v3a.heap.size
              replace lb : w6.heap.size ≤ v3a.heap.size := Bv3a.size
              refine hK _ _ (regrown_of_below (ba18 Bv3a (.cells #[.int .i64 0, .int .i64 0, .int .u32 0, .int .i64 0, .int .i64 0, .int .i64 0, .int .i64 0, .int .i64 0] 33))) ?_
              clear hK K
              intro v4a hv4a
              have m4 := (hv4a.block _ (Array.getElem?_eq_some_iff.1 q0).1).trans q0
              have Bv4a := bt18 hv4a (ba18 Bv3a (.cells #[.int .i64 0, .int .i64 0, .int .u32 0, .int .i64 0, .int .i64 0, .int .i64 0, .int .i64 0, .int .i64 0] 33))
              obtain ⟨⟨c0, c1, c2, c3, c4, c5, c6, c7⟩, fr⟩ := eight_in18 m4
              have C1 := put8_at (a0 := .int .i64 Y.leap) (a1 := .int .i64 Y.str) (a2 := .int .u32 Y.ref) (a3 := .int .i64 Y.off) (a4 := .int .i64 Y.jit) (a5 := .int .i64 Y.del) (a6 := .int .i64 Y.disp) (a7 := .int .i64 Y.peer) m4
              have C2 := put8_below Bv4a (v3a.heap.size) lb (.int .i64 Y.leap) (.int .i64 Y.str) (.int .u32 Y.ref) (.int .i64 Y.off) (.int .i64 Y.jit) (.int .i64 Y.del) (.int .i64 Y.disp) (.int .i64 Y.peer)
              unfold put8 at C1 C2
              refine headG_one (i := 13) (by kernel_rfl) (OneG.step rfl (fun K hK => ?_))
              go_simp
              refine hK _ _ (regrown_of_below C2) ?_
              clear hK K c0 c1 c2 c3 c4 c5 c6 c7 fr
              intro ve hve
              have hy := (hve.block _ (Array.getElem?_eq_some_iff.1 C1).1).trans C1
              have hB := bt18 hve C2
              refine ⟨by kernel_rfl, ?_⟩
              simp only [List.drop_succ_cons, List.drop_zero]
              go_wp2_with fail
              refine NoPanic.normal ?_
              generalize v3a.heap.size = b at hy ⊢
              generalize v0.heap.size = c at ⊢
              clear C1 C2
              revert hy hB
              exact key.out b c ve
            · skip
              refine OneG.step rfl (fun K hK => ?_)
              go_simp
              have q0 := heap_alloc_new v1f (.cells #[.int .i64 0, .int .i64 0, .int .u32 0, .int .i64 0, .int .i64 0, .int .i64 0, .int .i64 0, .int .i64 0] 33)
              have lb := Nat.le_refl v1f.heap.size
              replace lb : w6.heap.size ≤ v1f.heap.size := Bv1f.size
              have p0 := laid (.cells #[.int .i64 0, .int .i64 0, .int .u32 0, .int .i64 0, .int .i64 0, .int .i64 0, .int .i64 0, .int .i64 0] 33) n1
              refine hK _ _ (regrown_of_below (ba18 Bv1f (.cells #[.int .i64 0, .int .i64 0, .int .u32 0, .int .i64 0, .int .i64 0, .int .i64 0, .int .i64 0, .int .i64 0] 33))) ?_
              clear hK K
              intro v2a hv2a
              have m2 := (hv2a.block _ (Array.getElem?_eq_some_iff.1 q0).1).trans q0
              have n2 := (hv2a.block _ (Array.getElem?_eq_some_iff.1 p0).1).trans p0
              have Bv2a := bt18 hv2a (ba18 Bv1f (.cells #[.int .i64 0, .int .i64 0, .int .u32 0, .int .i64 0, .int .i64 0, .int .i64 0, .int .i64 0, .int .i64 0] 33))
              refine headG_one (i := 8) (by kernel_rfl) (OneG.step rfl (fun K hK => ?_))
              go_simp
              refine (KC.out.1 _ Bv2a _ _ (KC.out.2 _ _ n2) (by intro b hb; subst hb; exact (Array.getElem?_eq_some_iff.1 n2).1)).mono ?_
              rintro e vc ⟨rfl, gc⟩
              have m0 := kept m2 gc
              refine hK _ _ (regrown_of_below (bt18 gc Bv2a)) ?_
              clear hK K
              intro v3a hv3a
              have m3 := (hv3a.block _ (Array.getElem?_eq_some_iff.1 m0).1).trans m0
              have Bv3a := bt18 hv3a (bt18 gc Bv2a)
              refine headG_takes (g := 1) sh [9, 10, 11] _ _ _ (inv_ok [4, 12, 8] _ iv (by kernel_rfl)) (by kernel_rfl) (regrown_of_below Bv3a) ?_
              simp only [List.filterMap_cons, List.filterMap_nil, List.getElem?_toArray, List.getElem?_cons_succ, List.getElem?_cons_zero]
              repeat (refine wpG_step (fun K hK => ?_); go_simp; first | (refine hK _ ?_; clear hK K) | (apply Exists.intro; refine ⟨fun _ => ?_, hK _ ?_⟩; (fail); clear hK K))
              refine wpG_nil ?_
              intro v4a hv4a
              have m4 := kept m3 hv4a
              have Bv4a := bt18 hv4a Bv3a
              obtain ⟨⟨c0, c1, c2, c3, c4, c5, c6, c7⟩, fr⟩ := eight_in18 m4
              have C1 := put8_at (a0 := .int .i64 Y.leap) (a1 := .int .i64 Y.str) (a2 := .int .u32 Y.ref) (a3 := .int .i64 Y.off) (a4 := .int .i64 Y.jit) (a5 := .int .i64 Y.del) (a6 := .int .i64 Y.disp) (a7 := .int .i64 Y.peer) m4
              have C2 := put8_below Bv4a (v1f.heap.size) lb (.int .i64 Y.leap) (.int .i64 Y.str) (.int .u32 Y.ref) (.int .i64 Y.off) (.int .i64 Y.jit) (.int .i64 Y.del) (.int .i64 Y.disp) (.int .i64 Y.peer)
              unfold put8 at C1 C2
              refine headG_one (i := 13) (by kernel_rfl) (OneG.step rfl (fun K hK => ?_))
              go_simp
              refine hK _ _ (regrown_of_below C2) ?_
              clear hK K c0 c1 c2 c3 c4 c5 c6 c7 fr
              intro ve hve
              have hy := (hve.block _ (Array.getElem?_eq_some_iff.1 C1).1).trans C1
              have hB := bt18 hve C2
              refine ⟨by kernel_rfl, ?_⟩
              simp only [List.drop_succ_cons, List.drop_zero]
              go_wp2_with fail
              refine NoPanic.normal ?_
              generalize v1f.heap.size = b at hy ⊢
              generalize v0.heap.size = c at ⊢
              clear C1 C2
              revert hy hB
              exact key.out b c ve
          · skip
            refine OneG.step rfl (fun K hK => ?_)
            go_simp
            have q0 := heap_alloc_new v0 (.cells #[.int .i64 0, .int .i64 0, .int .u32 0, .int .i64 0, .int .i64 0, .int .i64 0, .int .i64 0, .int .i64 0] 33)
            have lb := Nat.le_refl v0.heap.size
            replace lb : w6.heap.size ≤ v0.heap.size := hv0.size
            refine hK _ _ (regrown_of_below (ba18 hv0 (.cells #[.int .i64 0, .int .i64 0, .int .u32 0, .int .i64 0, .int .i64 0, .int .i64 0, .int .i64 0, .int .i64 0] 33))) ?_
            clear hK K
            intro v1f hv1f
            have m1 := (hv1f.block _ (Array.getElem?_eq_some_iff.1 q0).1).trans q0
            have Bv1f := bt18 hv1f (ba18 hv0 (.cells #[.int .i64 0, .int .i64 0, .int .u32 0, .int .i64 0, .int .i64 0, .int .i64 0, .int .i64 0, .int .i64 0] 33))
            refine headG_one (i := 4) (by kernel_rfl) (OneG.step rfl (fun K hK => ?_))
            go_simp
            have n0 := heap_alloc_new v1f (.cells RR 28)
            have m0 := laid (.cells RR 28) m1
            refine hK _ _ (regrown_of_below (ba18 Bv1f (.cells RR 28))) ?_
            clear hK K
            intro v2f hv2f
            have n2 := (hv2f.block _ (Array.getElem?_eq_some_iff.1 n0).1).trans n0
            have m2 := (hv2f.block _ (Array.getElem?_eq_some_iff.1 m0).1).trans m0
            have Bv2f := bt18 hv2f (ba18 Bv1f (.cells RR 28))
            refine headG_one (i := 8) (by kernel_rfl) (OneG.step rfl (fun K hK => ?_))
            go_simp
            refine (KC.out.1 _ Bv2f _ _ (KC.out.2 _ _ n2) (by intro b hb; subst hb; exact (Array.getElem?_eq_some_iff.1 n2).1)).mono ?_
            rintro e vc ⟨rfl, gc⟩
            have m0 := kept m2 gc
            refine hK _ _ (regrown_of_below (bt18 gc Bv2f)) ?_
            clear hK K
            intro v3f hv3f
            have m3 := (hv3f.block _ (Array.getElem?_eq_some_iff.1 m0).1).trans m0
            have Bv3f := bt18 hv3f (bt18 gc Bv2f)
            refine headG_takes (g := 1) sh [9, 10, 11] _ _ _ (inv_ok [12, 4, 8] _ iv (by kernel_rfl)) (by kernel_rfl) (regrown_of_below Bv3f) ?_
            simp only [List.filterMap_cons, List.filterMap_nil, List.getElem?_toArray, List.getElem?_cons_succ, List.getElem?_cons_zero]
            repeat (refine wpG_step (fun K hK => ?_); go_simp; first | (refine hK _ ?_; clear hK K) | (apply Exists.intro; refine ⟨fun _ => ?_, hK _ ?_⟩; (fail); clear hK K))
            refine wpG_nil ?_
            intro v4f hv4f
            have m4 := kept m3 hv4f
            have Bv4f := bt18 hv4f Bv3f
            obtain ⟨⟨c0, c1, c2, c3, c4, c5, c6, c7⟩, fr⟩ := eight_in18 m4
            have C1 := put8_at (a0 := .int .i64 Y.leap) (a1 := .int .i64 Y.str) (a2 := .int .u32 Y.ref) (a3 := .int .i64 Y.off) (a4 := .int .i64 Y.jit) (a5 := .int .i64 Y.del) (a6 := .int .i64 Y.disp) (a7 := .int .i64 Y.peer) m4
            have C2 := put8_below Bv4f (v0.heap.size) lb (.int .i64 Y.leap) (.int .i64 Y.str) (.int .u32 Y.ref) (.int .i64 Y.off) (.int .i64 Y.jit) (.int .i64 Y.del) (.int .i64 Y.disp) (.int .i64 Y.peer)
            unfold put8 at C1 C2
            refine headG_one (i := 13) (by kernel_rfl) (OneG.step rfl (fun K hK => ?_))
            go_simp
            refine hK _ _ (regrown_of_below C2) ?_
            clear hK K c0 c1 c2 c3 c4 c5 c6 c7 fr
            intro ve hve
            have hy := (hve.block _ (Array.getElem?_eq_some_iff.1 C1).1).trans C1
            have hB := bt18 hve C2
            refine ⟨by kernel_rfl, ?_⟩
            simp only [List.drop_succ_cons, List.drop_zero]
            go_wp2_with fail
            refine NoPanic.normal ?_
            generalize v0.heap.size = b at hy ⊢
            generalize v1f.heap.size = c at ⊢
            clear C1 C2
            revert hy hB
            exact key.out b c ve
        · intro b β W hB hy
          have BT := Lib.hid (H1.out.trans ((O6.out.2.2.1.trans (hB.mono O6.out.2.2.1.size)).mono H1.out.size))
          obtain ⟨⟨y0, y1, y2, y3, y4, y5, y6, y7⟩, _⟩ := eight_in18 hy
          obtain ⟨yp, ys, yo0, yo1⟩ := YF.out
          rw [ys] at y1
          rw [yp] at y7
          have s17 := (hB.cell (cell_lt18 S17.out.1)).trans S17.out.1
          have hsc := S17.out.2.2.1
          have hwr : IntKind.i64.wrap (sc + 1) = sc + 1 := by rw [IntKind.wrap_i64]; omega
          have d3 : decide (0 ≤ Y.off) = true := decide_eq_true yo0
          have d4 : decide (Y.off ≤ 100) = true := decide_eq_true yo1
          have cnI : (c : Int) < z.length := by omega
          have cn0 : (0 : Int) ≤ (c : Int) := by omega
          generalize Y.off = yo at *
          clear hy hB y0 y2 y4 y5 y6 yp ys hsc
          by_cases g : c = old
          · have g1 : ((c : Int) == (old : Int)) = true := by rw [g]; exact beq_self_eq_true _
            have G := Lib.hid g
            clear g
            go_wp2_with fail
            go_quiet (fail)
            have BD := Lib.hid (below_drewN BT.out nq)
            go_wp2_with fail
            go_ret
            exact ⟨rfl, BD.out⟩
          · have g1 : ((c : Int) == (old : Int)) = false := beq_eq_false_iff_ne.2 (by omega)
            have hc0 : c = 0 := by
              rcases CO.out.2.1 with h | h
              · exact absurd h.1 g
              · exact h.1
            have g2 : ((c : Int) == 0) = true := by rw [hc0]; rfl
            have G := Lib.hid (And.intro g hc0)
            clear g hc0
            go_wp2_with fail
            go_quiet (fail)
            have BD := Lib.hid (below_drewN BT.out nq)
            go_wp2_with fail
            go_ret
            exact ⟨rfl, BD.out⟩
set_option maxRecDepth 100000 in
theorem lifted (os : Os) (started : os.Started) (H : Type) (enc : TypeId × Value → H) :
    ReturnsInHanded {} Tryz.checked os 3 .any (Rows.combineStaysSpec.pre6 enc Tryz.prog Tryz.f3 Rows.combineStaysRow.domain false) (Rows.combineStaysSpec.post enc Tryz.prog Tryz.f3 false true false false) := by
  refine returnsInHanded_of_change (C := Tryz.checked) own started (by kernel_rfl) Tryz.func3
    (ChangeSpec.witness6 (enc := enc) (C := Tryz.checked) false ⟨#[], #[.slice none 0 0, .int .u8 0], []⟩ 8 (by kernel_rfl) (by kernel_rfl) (by kernel_rfl) (by kernel_rfl)) ?_
  intro W base args ds gs before hval0 hW hcnd _
  have hval : ∀ (j : Nat) t v, Tryz.f3.params[j]? = some t → args[j]? = some v → Value.okWide Tryz.prog W .any base t v := hval0
  have hW' := hW
  obtain ⟨p, q, hA0, hV, rfl, hfz, hnd⟩ := hW
  have hA : DataW.TrodAll enc Tryz.prog W 0 (fun _ => true) true Tryz.f3.params.toList args.toList ds p := hA0
  rw [Tryz.params3] at hA hval
  obtain ⟨v0, vs0, d0, ds0, p0, q0, hargs, rfl, rfl, h0, r0⟩ := trodAll_cons hA
  obtain ⟨v1, vs1, d1, ds1, p1, q1, rfl, rfl, rfl, h1, r1⟩ := trodAll_cons r0
  obtain ⟨rfl, rfl, rfl⟩ := trodAll_nil r1
  obtain rfl : args = #[v0, v1] := by cases args; simp_all
  obtain ⟨rfl, rfl⟩ := trodVars_none hV
  obtain ⟨a0, len0, cap0, rfl⟩ := okWide_slice Tryz.underlying22 (hval 0 22 v0 rfl rfl)
  have k0 := h0
  have lt0 : ∀ x ∈ p0, x.block < W.heap.size := by obtain ⟨m, hm⟩ := k0; exact DataW.trod_lt m _ _ _ hm
  obtain ⟨z0, w0⟩ : ∃ zs, IsRow .u8 W a0 len0 cap0 zs := by
    obtain ⟨fuel, hf⟩ := h0
    rcases open_ints Tryz.underlying22 Tryz.underlying5 (by kernel_rfl) hf with ⟨hcs, _⟩ | ⟨x, l, c, zs, hcs, _, hl, hm, hz, _, hcell, hwz⟩
    · simp [Value.cells] at hcs
      obtain ⟨rfl, rfl, rfl⟩ := hcs
      exact ⟨[], .inl ⟨rfl, rfl, rfl, rfl⟩⟩
    · simp [Value.cells] at hcs
      obtain ⟨rfl, rfl, rfl⟩ := hcs
      exact ⟨zs, .inr ⟨_, rfl, hl, hm, by simpa using hz, hcell, hwz⟩⟩
  obtain ⟨a1, rfl, rfl, rfl, w1⟩ := open_int Tryz.underlying5 (hval 1 5 v1 rfl rfl) h1
  clear hA0 hval0
  refine (walk a0 len0 cap0 z0 a1 W w0 w1).mono fun e W' ⟨he, bel⟩ => ?_
  subst he
  exact ⟨_, rfl, _, _, _, [], _, [], hW', trodAll_mk1 (shut_bool Tryz.underlying4 _), (trodAll_cons_mk (Below.trod laidOut (by kernel_rfl) (of_decide_eq_true (by kernel_rfl)) k0 bel lt0) (trodAll_cons_mk (shut_int Tryz.underlying5 w1) trodAll_mk0)), rfl, bel.frame _, fun h => by cases h⟩

theorem over : Rows.combineStaysRow.holds Tryz.pinned (OpenSpec.ofChange Rows.combineStaysSpec) :=
  OpenClaim.holds_of_wide 3 Tryz.f3 rfl rfl rfl rfl rfl rfl rfl ⟨rfl, rfl, rfl, rfl, rfl⟩ rfl rfl rfl rfl rfl (by kernel_rfl) Tryz.func3 (by kernel_rfl)
    (of_decide_eq_true (by kernel_rfl)) (by unfold Func.isWrapper; first | (rw [if_pos (by decide +kernel)]; kernel_rfl) | (rw [if_neg (by decide +kernel)]; exact ⟨rfl, rfl⟩))
    (fun os started H enc _ => lifted os started H enc)

theorem proved : Rows.CombineStaysSaid := over
end Go.Proofs.YtekdablolacgfaaGreat.CombineStays
