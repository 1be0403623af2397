/- Layer 18's laws: what is told together, by the document. -/
import Derived.Test.YtekdablolacgfaaCqS
import Derived.Test.YtekdablolacgfaaRtQ
import Derived.Test.YtekdablolacgfaaApA
import Derived.Test.YtekdablolacgfaaPlA
import Derived.Test.YtekdablolacgfaaQtB
namespace Go.Proofs.Ytekdablolacgfaa.W
open Go.RowKit Go.Sort
set_option linter.unusedVariables false
set_option linter.unusedSimpArgs false
theorem below_setRow18 {B g : Nat} {w0 w : World} (hb : Below B w0 w) (hBg : B ≤ g) (cs : Array Value) : Below B w0 (w.setRow g cs) :=
  hb.trans ⟨rfl, rfl, rfl, by simp [World.setRow], fun k hk => setRow_other w g k cs (by omega)⟩
theorem info_sy18 : (Try.prog.info? 42).map (·.size) = some 8 := by kernel_rfl
/-- Goals that agree, walked once: each is 'key.out'. -/
theorem merge18 {T Q : Prop} (main : Hid T → Q) (pf : T) : Q := main (Lib.hid pf)
theorem results_cell_tmp18 {fn : Func} {t u : Tmp} {T : TypeId} (h : fn.results = #[.cell t T, .tmp u]) (tmps : Array Value) {P : Program} {w : World} {ad : Addr} {x y : Value} (h1 : tmps.getD t undef = .pointer (some ad)) (h2 : tmps.getD u undef = y) (hl : (loadVar T ad).run P w = .ok x w) : (results fn tmps).run P w = .ok (.tuple #[x, y]) w := by
  simp only [Array.getD_eq_getD_getElem?] at h1 h2
  simp [results, h, h1, h2, hl, asAddr]
theorem loadVar_sy18 {w : World} {b : Nat} {C : Array Value} {t : TypeId} (h : w.heap[b]? = some (.cells C t (0, 0))) (hn : C.size = 8) : (loadVar 42 ⟨b, 0, none⟩).run Try.prog w = .ok (.agg C) w :=
  run_loadVar_row (P := Try.prog) w b t 42 C (0, 0) _ h Try.underlying42 rfl (by rw [info_sy18, hn])
theorem load_sy18 {w : World} {b : Nat} {C : Array Value} {t : TypeId} (h : w.heap[b]? = some (.cells C t (0, 0))) (hn : C.size = 8) : (Instr.loadAt 42 (.pointer (some ⟨b, 0, none⟩))).run Try.prog w = .ok (.agg C) w := by
  have := run_loadVar_row (P := Try.prog) w b t 42 C (0, 0) _ h Try.underlying42 rfl (by rw [info_sy18, hn])
  simp only [Instr.loadAt, Instr.sureAddr, Sem.run_bind, Sem.run_pure, Result.andThen_ok, this]
theorem store_sy18 {w : World} {b : Nat} {C D : Array Value} {t : TypeId} (h : w.heap[b]? = some (.cells D t (0, 0))) (hD : D.size = 8) (hn : C.size = 8) (h1 : C.all (·.oneCell') = true) : (Instr.storeAt 42 (.pointer (some ⟨b, 0, none⟩)) (.agg C)).run Try.prog w = .ok () (w.setRow b C) := by
  have := run_storeVar_row (P := Try.prog) w b t 42 D C h (by rw [info_sy18, hn]) (by rw [hD, hn]) h1
  simp only [Instr.storeAt, Instr.sureAddr, Sem.run_bind, Sem.run_pure, Result.andThen_ok, this]
section
variable {ops : Array Oper} {Q : Exit → Act → World → Prop} {rest : List Oper} {o : Oper} {a : Act} {w : World}
theorem at_load_sy18 (hgd : o.guard = none) (x : Operand) (ho : o.op = .load 42 x) (b : Nat) (hx : a.eval x = .pointer (some ⟨b, 0, none⟩)) {C : Array Value} {t : TypeId} (hC : w.heap[b]? = some (.cells C t (0, 0))) (hn : C.size = 8) (h : wpList Try.prog ops Q rest (a.put o.dst (.agg C)) w) : wpList Try.prog ops Q (o :: rest) a w :=
  wpList_plain hgd fun K hK => by
    unfold Oper.wp execOp
    simp only [ho, hx, Sem.run_bind, load_sy18 hC hn, Result.andThen_ok, Sem.run_pure]
    exact hK _ _ h
theorem at_store_sy18 (hgd : o.guard = none) (x y : Operand) (ho : o.op = .store 42 x y) (b : Nat) (hx : a.eval x = .pointer (some ⟨b, 0, none⟩)) {C D : Array Value} {t : TypeId} (hy : a.eval y = .agg C) (hD : w.heap[b]? = some (.cells D t (0, 0))) (hd : D.size = 8) (hn : C.size = 8) (h1 : C.all (·.oneCell') = true) (h : wpList Try.prog ops Q rest (a.put o.dst undef) (w.setRow b C)) : wpList Try.prog ops Q (o :: rest) a w :=
  wpList_plain hgd fun K hK => by
    unfold Oper.wp execOp
    simp only [ho, hx, hy, Sem.run_bind, store_sy18 hD hd hn h1, Result.andThen_ok, Sem.run_pure]
    exact hK _ _ h
end
theorem sy_one18 (a b c d e f g h : Int) : (#[Value.int .i64 a, .int .i64 b, .int .u32 c, .int .i64 d, .int .i64 e, .int .i64 f, .int .i64 g, .int .i64 h] : Array Value).all (·.oneCell') = true := by simp [Value.oneCell']
set_option maxRecDepth 100000 in
set_option maxHeartbeats 25600000 in
theorem rcomb18_any (p : Pm) (tp : p.Typed) (l : List Sv) (tl : ∀ s ∈ l, s.Typed) (hl : l.length ≤ 60) (ids : List Int) (hi0 : ids.length ≤ 60) (kept : List Int) (hk : kept.length ≤ 60) (tk : ∀ x ∈ kept, -9223372036854775808 ≤ x ∧ x ≤ 9223372036854775807) (old lo hi at_ : Int) (l0 : -9223372036854775808 ≤ lo ∧ lo ≤ 9223372036854775807) (h0 : -9223372036854775808 ≤ hi ∧ hi ≤ 9223372036854775807) (a0 : -9223372036854775808 ≤ at_ ∧ at_ ≤ 9223372036854775807) {F G H : Nat → Prop} {vl vi vk : Value} (w : World) (sl : SlAt F 11 svC w vl l) (si : SlAt H 1 (oneE .u32) w vi ids) (sk : SlAt G 1 (oneE .i64) w vk kept) (hF : ∀ b, F b → b < w.heap.size) (hG : ∀ b, G b → b < w.heap.size) (hH : ∀ b, H b → b < w.heap.size) :
    Calls Try.prog 16 #[p.val, vl, vi, vk, .int .i64 old, .agg #[.int .i64 lo, .int .i64 hi], .int .i64 at_] w fun e w' => e = .returned (.tuple #[(combY p l ids kept old lo hi at_).val, .bool (combB l ids kept old)]) ∧ Below w.heap.size w w' := by
  obtain ⟨xl, cl, rfl⟩ := sl.slice
  obtain ⟨xi, ci, rfl⟩ := si.slice
  obtain ⟨xk, ck, rfl⟩ := sk.slice
  obtain ⟨w0, hw0⟩ : ∃ W, ((w.alloc (.cells (pmA p) 45)).alloc (.cells #[.int .i64 lo, .int .i64 hi] 24)).alloc (.cells #[.int .i64 0, .int .i64 0, .int .u32 0, .int .i64 0, .int .i64 0, .int .i64 0, .int .i64 0, .int .i64 0] 42) = W := ⟨_, rfl⟩
  obtain ⟨x0, x1, x2, B0, z0⟩ := three_new18 _ _ _ _ _ _ _ _ hw0
  have cC := rchoose18_any l hl kept hk old w0 (sl.kept fun b hb => B0.block b (hF b hb)) (sk.kept fun b hb => B0.block b (hG b hb)) (fun b hb => Nat.lt_of_lt_of_le (hF b hb) B0.size) (fun b hb => Nat.lt_of_lt_of_le (hG b hb) B0.size)
  have X := Lib.hid (And.intro x0 (And.intro x1 (And.intro x2 (And.intro B0 z0))))
  have SS := Lib.hid (And.intro sl (And.intro si sk))
  have HF := Lib.hid (And.intro hF (And.intro hG hH))
  clear x0 x1 x2 B0 z0 sl si sk hF hG hH
  unfold pmA at hw0
  unfold Pm.val
  by_cases g1 : leadI l kept old < 0
  · have d1 : decide (leadI l kept old < 0) = true := decide_eq_true g1
    have hb : combB l ids kept old = false := by unfold combB; rw [decide_eq_false]; omega
    have hy : combY p l ids kept old lo hi at_ = Sy.zero := by unfold combY; rw [hb]; rfl
    rw [hb, hy]
    unfold Sy.val Sy.cells Sy.zero
    dsimp only
    generalize leadI l kept old = ld at *
    clear hb hy
    go_enter Try.func16, Try.ntmps16
    go_wp2_with (rw [hw0])
    (with_reducible refine cC.mono ?_)
    rintro e w1 ⟨rfl, B1⟩
    obtain ⟨x0, x1, x2, B0, z0⟩ := X.out
    have y2 := (B1.block _ (by omega)).trans x2
    have BW := B0.trans (B1.mono (by omega))
    obtain ⟨⟨c0, c1, c2, c3, c4, c5, c6, c7⟩, fr⟩ := eight_in18 y2
    have HY := Lib.hid (And.intro y2 BW)
    clear x0 x1 x2 B0 z0 B1 y2 BW cC X
    go_wp2_with fail
    obtain ⟨y2, BW⟩ := HY.out
    have C1 := put8_at (a0 := .int .i64 0) (a1 := .int .i64 0) (a2 := .int .u32 0) (a3 := .int .i64 0) (a4 := .int .i64 0) (a5 := .int .i64 0) (a6 := .int .i64 0) (a7 := .int .i64 0) y2
    have BF := put8_below BW (w.heap.size + 1 + 1) (by omega) (.int .i64 0) (.int .i64 0) (.int .u32 0) (.int .i64 0) (.int .i64 0) (.int .i64 0) (.int .i64 0) (.int .i64 0)
    clear c0 c1 c2 c3 c4 c5 c6 c7 fr
    obtain ⟨⟨c0, c1, c2, c3, c4, c5, c6, c7⟩, _⟩ := eight_in18 C1
    unfold put8 at *
    refine bodyPost_ret (v := .tuple #[.agg #[.int .i64 0, .int .i64 0, .int .u32 0, .int .i64 0, .int .i64 0, .int .i64 0, .int .i64 0, .int .i64 0], .bool false]) ?_ rfl ⟨rfl, BF⟩
    simp [results, Try.results16, go_sem, c0, c1, c2, c3, c4, c5, c6, c7]
  · have d1 : decide (leadI l kept old < 0) = false := decide_eq_false g1
    by_cases g2 : ids.length = l.length
    · have d2 : ((ids.length : Int) == (l.length : Int)) = true := by rw [g2]; exact beq_self_eq_true _
      have d3 : ((ids.length : Int) != (l.length : Int)) = false := by rw [g2]; simp
      have hb : combB l ids kept old = true := by unfold combB; rw [decide_eq_true]; exact ⟨by omega, g2⟩
      obtain ⟨hlt, hall⟩ := lead_in (l := l) (kept := kept) (old := old) (by omega)
      have hge : 0 ≤ leadI l kept old := by omega
      have hy : combY p l ids kept old lo hi at_ = ⟨(svAt l (leadI l kept old).toNat).leap, min (svAt l (leadI l kept old).toNat).str 999 + 1, ids.getD (leadI l kept old).toNat 0, combOff p l kept lo hi at_,
          combJit p l kept (svAt l (leadI l kept old).toNat) lo hi at_, addI (svAt l (leadI l kept old).toNat).del (svAt l (leadI l kept old).toNat).t.del,
          combDisp p (svAt l (leadI l kept old).toNat) at_ (combJit p l kept (svAt l (leadI l kept old).toNat) lo hi at_) (combOff p l kept lo hi at_), leadI l kept old⟩ := by unfold combY; rw [if_pos hb]
      rw [hb, hy]
      unfold Sy.val Sy.cells
      dsimp only
      have tx := tl _ (sv_in hge hlt)
      obtain ⟨bl, offl, rfl, lbl, hsv⟩ := sv_cells18 SS.out.1 HF.out.1 (Below.refl w.heap.size w) hge hlt
      generalize leadI l kept old = ld at *
      generalize svAt l ld.toNat = x at *
      have HA := Lib.hid hall
      have TX := Lib.hid tx
      obtain ⟨ms, hms⟩ : ∃ m, min x.str 999 = m := ⟨_, rfl⟩
      obtain ⟨idv, hidv⟩ : ∃ m, ids.getD ld.toNat 0 = m := ⟨_, rfl⟩
      obtain ⟨mo, hmo⟩ : ∃ m, combOff p l kept lo hi at_ = m := ⟨_, rfl⟩
      obtain ⟨mj, hmj⟩ : ∃ m, combJit p l kept x lo hi at_ = m := ⟨_, rfl⟩
      obtain ⟨dl, hdl⟩ : ∃ m, addI x.del x.t.del = m := ⟨_, rfl⟩
      obtain ⟨dp, hdp⟩ : ∃ m, combDisp p x at_ mj mo = m := ⟨_, rfl⟩
      rw [hms, hidv, hmo, hmj, hdl, hdp]
      have HM := Lib.hid (And.intro hms (And.intro hidv (And.intro hmo (And.intro hmj (And.intro hdl hdp)))))
      clear hms hidv hmo hmj hdl hdp
      obtain ⟨i0, hi0', hz0, hz1, hz2⟩ := info_parts info_i64_18
      clear hb hy hall tx
      go_enter Try.func16, Try.ntmps16
      go_wp2_with (rw [hw0])
      (with_reducible refine cC.mono ?_)
      rintro e w1 ⟨rfl, B1⟩
      obtain ⟨x0, x1, x2, B0, z0⟩ := X.out
      have BW1 := B0.trans (B1.mono (by omega))
      have y0 := (B1.block _ (by omega)).trans x0
      have y1 := (B1.block _ (by omega)).trans x1
      have y2 := (B1.block _ (by omega)).trans x2
      have lw1 : w.heap.size + 3 ≤ w1.heap.size := by have := B1.size; omega
      obtain ⟨s0, s1, s2, s3, s4, s5, s6, s7, s8, s9, s10⟩ := sv_at18 (w := w1) (b := bl) (q := offl + ld.toNat * 11) (s := x) (fun j u hu => by rw [BW1.cell lbl]; exact hsv j u hu)
      have ownS := (ownsRow_fresh (w1.alloc (.cells (svA x) 60)) 2 1 (w1.alloc (.cells (svA x) 60)).heap.size (Nat.le_refl _)).alloc (.cells #[] 2)
      have ownT := ownsRow_fresh ((w1.alloc (.cells (svA x) 60)).alloc (.cells #[] 2)) 2 1 (w1.alloc (.cells (svA x) 60)).heap.size (by simp)
      have hx2 := heap_alloc_new w1 (.cells (svA x) 60)
      have B2 := (Below.refl w1.heap.size w1).alloc (Nat.le_refl _) (.cells (svA x) 60)
      have z2 := World.size_alloc w1 (.cells (svA x) 60)
      have HY := Lib.hid (And.intro y0 (And.intro y1 (And.intro y2 (And.intro BW1 lw1))))
      have HX := Lib.hid (And.intro hx2 (And.intro B2 z2))
      clear x0 x1 x2 B0 z0 B1 y0 y1 y2 BW1 lw1 cC X hx2 B2 z2
      have bS := ((Below.refl (w1.alloc (.cells (svA x) 60)).heap.size (w1.alloc (.cells (svA x) 60))).alloc (Nat.le_refl _) (.cells #[] 2)).alloc (by simp) (.cells #[] 2)
      go_upto_region 5 with fail
      generalize w1.alloc (.cells (svA x) 60) = w2 at *
      rw [World.size_alloc] at ownT
      have hap0 : Apa (.slice (some ⟨w2.heap.size, 0, none⟩) 0 0) (.slice (some ⟨w2.heap.size + 1, 0, none⟩) 0 0) := fun b h1 h2 => by
        simp [Value.ownBlock] at h1 h2
        omega
      clear s0 s1 s2 s3 s4 s5 s6 s7 s8 s9 s10
      go_wp2_with fail
      go_loopw [18, 19, 20] (fun o d i wr => ∃ q : Nat, q ≤ kept.length ∧ i = .int .i64 (q : Int) ∧ Apa o d ∧ wr.ownsRow w2.heap.size 2 1 o q (((offsC l kept).take q).flatMap (oneE .i64)) ∧ wr.ownsRow w2.heap.size 2 1 d q (((distC p l kept at_).take q).flatMap (oneE .i64)) ∧ Below w2.heap.size w2 wr) (fun _ _ i _ => kept.length - (intOf i).toNat)
      case atStart => exact ⟨0, Nat.zero_le _, rfl, hap0, ownS, ownT, bS⟩
      case round =>
        obtain ⟨q, hq, rfl, hap, own1, own2, hB⟩ := hrel
        clear ownS ownT bS hap0
        have z1 := hB.size
        obtain ⟨y0, y1, y2, BW1, lw1⟩ := HY.out
        obtain ⟨hx2, B2, zz2⟩ := HX.out
        have B1r := B2.trans (hB.mono (by omega))
        have BWr := BW1.trans (B1r.mono (by omega))
        by_cases hlt2 : q < kept.length
        · have i1 : (q : Int) < kept.length := by omega
          have i0' : (0 : Int) ≤ (q : Int) := by omega
          obtain ⟨bk, offk, rfl, k0⟩ := num_at18 SS.out.2.2 HF.out.2.1 BWr (q := q) hlt2
          have hin := HA.out _ (getD_in hlt2)
          have hgd : kept[q]? = some (kept.getD q 0) := by simp [List.getD, hlt2]
          have hto : (offsC l kept)[q]? = some (svAt l (kept.getD q 0).toNat).t.off := by unfold offsC; rw [List.getElem?_map, hgd]; rfl
          have htd : (distC p l kept at_)[q]? = some (distI p (svAt l (kept.getD q 0).toNat) at_) := by unfold distC; rw [List.getElem?_map, hgd]; rfl
          have TK := Lib.hid (And.intro (take_snoc18 hto) (take_snoc18 htd))
          have hsy := tl _ (sv_in hin.1 hin.2)
          obtain ⟨bl', offl', hbl', _, hsv'⟩ := sv_cells18 SS.out.1 HF.out.1 BWr hin.1 hin.2
          obtain ⟨rfl, rfl⟩ : bl = bl' ∧ offl = offl' := by simpa using hbl'
          generalize kept.getD q 0 = y at *
          obtain ⟨s0, s1, s2, s3, s4, s5, s6, s7, s8, s9, s10⟩ := sv_at18 (w := wr) (b := bl) (q := offl + y.toNat * 11) (s := svAt l y.toNat) hsv'
          have cD := rdist15_any p tp (svAt l y.toNat) hsy at_ a0
          unfold Pm.val Sv.val at cD
          generalize svAt l y.toNat = sy at *
          generalize distI p sy at_ = dy at *
          have lbl2 : bl < w2.heap.size := by omega
          have lbk2 : bk < w2.heap.size := by have := (Array.getElem?_eq_some_iff.1 y0).1; have := SS.out.2.2; rcases this with ⟨_, _, _, _, hn⟩ | ⟨b9, o9, c9, hv9, hb9, _⟩; (rw [hn] at hlt2; simp at hlt2); (have e9 := (Value.slice.inj hv9).1; simp at e9; have := HF.out.2.1 b9 hb9; omega)
          have iy0 := hin.1
          have iy1 := hin.2
          have HP := Lib.hid ((hB.block _ (by omega)).trans ((B2.block _ (by omega)).trans y0))
          have SV := Lib.hid (And.intro hsv' k0)
          have ZZ := Lib.hid zz2
          clear hto htd hgd hsy hbl' hsv' y0 y1 y2 BW1 hx2 B2 B1r BWr hin zz2
          go_wp2_with (at_builtin; refine wpList_append_own_at _ rfl _ _ 22 rfl w2.heap.size 2 i0 _ 1 8 Try.underlying22 hi0' hz0 hz1 hz2 rfl (by decide) _ _ _ rfl (own1.alloc _) ⟨wr.heap.size, 0, none⟩ 1 1 [.int .i64 sy.t.off] rfl rfl (new_row15 _ _ _) (by intro u hu; simp at hu; subst hu; rfl) (by unfold maxLen; omega) (by omega) (by simp; omega) ?_; intro v4 w4 hown4 hgrow4 _ hat4; have own4 : w4.ownsRow w2.heap.size 2 1 v4 (q + 1) (((offsC l kept).take (q + 1)).flatMap (oneE .i64)) := (by rw [TK.out.1, List.flatMap_append]; exact hown4); have B4 := (hB.alloc z1 (.cells #[.int .i64 sy.t.off] 2)).grown hgrow4 (by simp; omega) (fun g hg => (own1.lt g hg).1); have z4 := B4.size; have p4 := (own2.alloc (.cells #[.int .i64 sy.t.off] 2)).kept hgrow4 (apart_ne hap); have ap4 := apart_left (H := wr.heap.size + 1) hap hat4 (by simp) (fun b hb => by have := (own2.lt b hb).2; omega))
          obtain ⟨hsv', k0'⟩ := SV.out
          have q4 := p4.drew
          have r4 := own4.drew
          have BD4 : Below w2.heap.size w2 w4.drew := B4.drew
          have HS : ∀ W, Below w2.heap.size w2 W → (W.cell? ⟨w.heap.size, 0, none⟩ = some (.int .i64 p.step) ∧ W.cell? ⟨w.heap.size, 1, none⟩ = some (.int .i64 p.watch) ∧ W.cell? ⟨w.heap.size, 2, none⟩ = some (.int .i64 p.panic) ∧ W.cell? ⟨w.heap.size, 3, none⟩ = some (.int .i64 p.maxrate) ∧ W.cell? ⟨w.heap.size, 4, none⟩ = some (.int .i64 p.phi) ∧ W.cell? ⟨w.heap.size, 5, none⟩ = some (.int .i64 p.maxdist) ∧ W.cell? ⟨w.heap.size, 6, none⟩ = some (.int .i64 p.gate) ∧ W.cell? ⟨w.heap.size, 7, none⟩ = some (.int .i64 p.minpoll) ∧ W.cell? ⟨w.heap.size, 8, none⟩ = some (.int .i64 p.maxpoll) ∧ W.cell? ⟨w.heap.size, 9, none⟩ = some (.int .i64 p.burst) ∧ W.cell? ⟨w.heap.size, 10, none⟩ = some (.int .i64 p.minsane) ∧ W.cell? ⟨w.heap.size, 11, none⟩ = some (.int .i64 p.minleft) ∧ W.cell? ⟨bk, offk + q, none⟩ = some (.int .i64 y) ∧ W.cell? ⟨bl, offl + y.toNat * 11, none⟩ = some (.int .i64 sy.leap) ∧ W.cell? ⟨bl, offl + y.toNat * 11 + 1, none⟩ = some (.int .i64 sy.str) ∧ W.cell? ⟨bl, offl + y.toNat * 11 + 2, none⟩ = some (.int .u32 sy.ref) ∧ W.cell? ⟨bl, offl + y.toNat * 11 + 3, none⟩ = some (.int .i64 sy.del) ∧ W.cell? ⟨bl, offl + y.toNat * 11 + 4, none⟩ = some (.int .i64 sy.disp) ∧ W.cell? ⟨bl, offl + y.toNat * 11 + 5, none⟩ = some (.int .i64 sy.t.off) ∧ W.cell? ⟨bl, offl + y.toNat * 11 + 6, none⟩ = some (.int .i64 sy.t.del) ∧ W.cell? ⟨bl, offl + y.toNat * 11 + 7, none⟩ = some (.int .i64 sy.t.disp) ∧ W.cell? ⟨bl, offl + y.toNat * 11 + 8, none⟩ = some (.int .i64 sy.t.jit) ∧ W.cell? ⟨bl, offl + y.toNat * 11 + 9, none⟩ = some (.int .i64 sy.t.at_) ∧ W.cell? ⟨bl, offl + y.toNat * 11 + 10, none⟩ = some (.int .u8 sy.reg)) := fun W bW => by
            have k1 : W.cell? ⟨bk, offk + q, none⟩ = some (.int .i64 y) := (bW.cell lbk2).trans ((hB.cell lbk2).symm.trans k0')
            have P4 : W.heap[w.heap.size]? = some (.cells (pmA p) 45 (0, 0)) := (bW.block _ (by have := ZZ.out; omega)).trans ((hB.block _ (by have := ZZ.out; omega)).symm.trans HP.out)
            unfold pmA at P4
            obtain ⟨n0, n1, n2, n3, n4, n5, n6, n7, n8, n9, n10, n11⟩ := twelve_in18 P4
            obtain ⟨t0, t1, t2, t3, t4, t5, t6, t7, t8, t9, t10⟩ := sv_at18 (w := W) (b := bl) (q := offl + y.toNat * 11) (s := sy) (fun j u hu => (bW.cell lbl2).trans ((hB.cell lbl2).symm.trans (hsv' j u hu)))
            exact ⟨n0, n1, n2, n3, n4, n5, n6, n7, n8, n9, n10, n11, k1, t0, t1, t2, t3, t4, t5, t6, t7, t8, t9, t10⟩
          have R4 := Lib.hid (And.intro B4 z4)
          clear own1 own2 hap hown4 hgrow4 hat4 s0 s1 s2 s3 s4 s5 s6 s7 s8 s9 s10 k0 hsv' k0' B4 own4 p4
          have HZ := HS _ BD4
          go_region_held3 (fun W => W.cell? ⟨w.heap.size, 0, none⟩ = some (.int .i64 p.step) ∧ W.cell? ⟨w.heap.size, 1, none⟩ = some (.int .i64 p.watch) ∧ W.cell? ⟨w.heap.size, 2, none⟩ = some (.int .i64 p.panic) ∧ W.cell? ⟨w.heap.size, 3, none⟩ = some (.int .i64 p.maxrate) ∧ W.cell? ⟨w.heap.size, 4, none⟩ = some (.int .i64 p.phi) ∧ W.cell? ⟨w.heap.size, 5, none⟩ = some (.int .i64 p.maxdist) ∧ W.cell? ⟨w.heap.size, 6, none⟩ = some (.int .i64 p.gate) ∧ W.cell? ⟨w.heap.size, 7, none⟩ = some (.int .i64 p.minpoll) ∧ W.cell? ⟨w.heap.size, 8, none⟩ = some (.int .i64 p.maxpoll) ∧ W.cell? ⟨w.heap.size, 9, none⟩ = some (.int .i64 p.burst) ∧ W.cell? ⟨w.heap.size, 10, none⟩ = some (.int .i64 p.minsane) ∧ W.cell? ⟨w.heap.size, 11, none⟩ = some (.int .i64 p.minleft) ∧ W.cell? ⟨bk, offk + q, none⟩ = some (.int .i64 y) ∧ W.cell? ⟨bl, offl + y.toNat * 11, none⟩ = some (.int .i64 sy.leap) ∧ W.cell? ⟨bl, offl + y.toNat * 11 + 1, none⟩ = some (.int .i64 sy.str) ∧ W.cell? ⟨bl, offl + y.toNat * 11 + 2, none⟩ = some (.int .u32 sy.ref) ∧ W.cell? ⟨bl, offl + y.toNat * 11 + 3, none⟩ = some (.int .i64 sy.del) ∧ W.cell? ⟨bl, offl + y.toNat * 11 + 4, none⟩ = some (.int .i64 sy.disp) ∧ W.cell? ⟨bl, offl + y.toNat * 11 + 5, none⟩ = some (.int .i64 sy.t.off) ∧ W.cell? ⟨bl, offl + y.toNat * 11 + 6, none⟩ = some (.int .i64 sy.t.del) ∧ W.cell? ⟨bl, offl + y.toNat * 11 + 7, none⟩ = some (.int .i64 sy.t.disp) ∧ W.cell? ⟨bl, offl + y.toNat * 11 + 8, none⟩ = some (.int .i64 sy.t.jit) ∧ W.cell? ⟨bl, offl + y.toNat * 11 + 9, none⟩ = some (.int .i64 sy.t.at_) ∧ W.cell? ⟨bl, offl + y.toNat * 11 + 10, none⟩ = some (.int .u8 sy.reg))
            (first
              | exact HS _ BD4
              | exact HS _ B5
              | exact HS _ (B5.alloc z5 _)
              | exact HS _ B6)
            (first
              | (go_at_call 37; (with_reducible refine (cD _).mono ?_); rintro e v1 ⟨rfl, g1⟩; have p5 := own_kept15 q4 g1; have r5 := own_kept15 r4 g1; have B5 := BD4.trans (g1.mono BD4.size); have z5 := B5.size)
              | (refine step_append_lies _ (by rfl) _ _ _ (by rfl) w2.heap.size 2 i0 _ 1 8 Try.underlying22 hi0' hz0 hz1 hz2 rfl (by decide) _ q (((distC p l kept at_).take q).flatMap (oneE .i64)) (by rfl) (p5.alloc _) ⟨v1.heap.size, 0, none⟩ 1 1 [.int .i64 dy] (by rfl) (by rfl) (World.news_of_block (cs := #[.int .i64 dy]) (t := 2) (fr := (0, 0)) (heap_alloc_new v1 _)) (by simp [Value.oneCell']) (by omega) (by unfold maxLen; omega) (by omega) (by simp; omega) (v1.heap.size + 1) (by simp) ?_; intro gg cp w6 hown6 hgrow6 hat6 hglt6; have B6 := (B5.alloc z5 (.cells #[.int .i64 dy] 2)).grown hgrow6 (by simp; omega) (fun g hg => (p5.lt g hg).1)))
          have own6 : w6.ownsRow w2.heap.size 2 1 (.slice (some ⟨gg, 0, none⟩) (q + 1) cp) (q + 1) (((distC p l kept at_).take (q + 1)).flatMap (oneE .i64)) := by rw [TK.out.2, List.flatMap_append]; exact hown6
          have r6 := (r5.alloc (.cells #[.int .i64 dy] 2)).kept hgrow6 (apart_ne (apart_symm ap4))
          have ap6 := apart_symm (apart_new (n := q + 1) (cp := cp) (apart_symm ap4) hat6 (fun b hb => by have := (r5.lt b hb).2; omega))
          have RR := Lib.hid (And.intro ap6 (And.intro r6 (And.intro own6 B6)))
          clear hown6 hgrow6 hat6 hglt6 own6 r6 ap6 B6 p5 r5 B5 z5 q4 r4 BD4 HS HZ R4 ap4 cD g1
          go_wp2_with fail
          go_roundw
          case rel => exact ⟨q + 1, by omega, by go_num, RR.out.1, RR.out.2.1, RR.out.2.2.1, RR.out.2.2.2⟩
          case measure => simp [intOf]; omega
        · have eq : q = kept.length := by omega
          subst eq
          have hO : (offsC l kept).take kept.length = offsC l kept := List.take_of_length_le (by simp [offsC])
          have hD : (distC p l kept at_).take kept.length = distC p l kept at_ := List.take_of_length_le (by simp [distC])
          rw [hO] at own1
          rw [hD] at own2
          have hlo : (offsC l kept).length = kept.length := by simp [offsC]
          have hld : (distC p l kept at_).length = kept.length := by simp [distC]
          have hT := SlAt.own (k := 1) (enc := oneE .i64) (l := offsC l kept) (fun _ => rfl) (by rw [hlo]; exact own1)
          have hU := SlAt.own (k := 1) (enc := oneE .i64) (l := distC p l kept at_) (fun _ => rfl) (by rw [hld]; exact own2)
          have i1 : ¬ (kept.length : Int) < kept.length := by omega
          have HT := Lib.hid (And.intro hT hU)
          have HW := Lib.hid (And.intro hB (And.intro BWr B1r))
          have ZZ := Lib.hid zz2
          obtain ⟨c0, c1, c2, c3, c4, c5, c6, c7, c8, c9, c10⟩ := sv_at18 (w := wr) (b := w1.heap.size) (q := 0) (s := x) (fun j u hu => by
            have h9 := (hB.block w1.heap.size (by omega)).trans hx2
            have : (svA x)[j]? = some u := by rw [← hu]; simp [svA, svC]
            simp [World.cell?, h9, this])
          obtain ⟨bi, offi, rfl, ci0⟩ := num_at18u SS.out.2.1 HF.out.2.2 BWr (q := ld.toNat) (by rw [g2]; omega)
          clear hT hU own1 own2 hap hB zz2 y0 y1 y2 BW1 lw1 hx2 B2 B1r BWr hO hD z1
          go_wp2_with fail
          have f1 := fun ts t W => run_min18 .i64 x.str 999 ms HM.out.1 ts t W
          have hw1 : IntKind.i64.wrap (ms + 1) = ms + 1 := IntWalk.i64_in _ (by have := HM.out.1; have := TX.out.str; omega)
          rw [HM.out.2.1] at ci0
          have bx1 : w1.heap.size < wr.heap.size := by have := HW.out.2.2.size; have := HX.out.2.2; have := HW.out.1.size; omega
          have bi1 : bi < wr.heap.size := (cell_lt18 ci0)
          have HS : ∀ W, Below wr.heap.size wr W → (W.cell? ⟨w1.heap.size, 0, none⟩ = some (.int .i64 x.leap) ∧ W.cell? ⟨w1.heap.size, 1, none⟩ = some (.int .i64 x.str) ∧ W.cell? ⟨bi, offi + ld.toNat, none⟩ = some (.int .u32 idv)) := fun W bW =>
            ⟨(bW.cell bx1).trans c0, (bW.cell bx1).trans c1, (bW.cell bi1).trans ci0⟩
          have HC := Lib.hid (And.intro c5 (And.intro c6 (And.intro c7 (And.intro c8 (And.intro c9 c10)))))
          have HD := Lib.hid (And.intro c2 (And.intro c3 c4))
          clear c0 c1 c2 c3 c4 c5 c6 c7 c8 c9 c10 ci0
          apply merge18
          · intro key
            go_region_held3 (fun W => W.cell? ⟨w1.heap.size, 0, none⟩ = some (.int .i64 x.leap) ∧ W.cell? ⟨w1.heap.size, 1, none⟩ = some (.int .i64 x.str) ∧ W.cell? ⟨bi, offi + ld.toNat, none⟩ = some (.int .u32 idv))
              ((refine HS _ ?_; (repeat' first | exact Below.refl _ _ | (refine set_below18 ?_ _ _ _ (by first | exact Nat.le_refl _ | (simp; done))) | (refine Below.drew ?_) | (refine Below.alloc ?_ (by first | exact Nat.le_refl _ | (simp; done)) _))))
              (fail)
            all_goals exact key.out
          · skip
            have y3 := heap_alloc_new wr (.cells #[.int .i64 x.leap, .int .i64 (ms + 1), .int .u32 idv, .int .i64 0, .int .i64 0, .int .i64 0, .int .i64 0, .int .i64 ld] 42)
            have z3 := World.size_alloc wr (.cells #[.int .i64 x.leap, .int .i64 (ms + 1), .int .u32 idv, .int .i64 0, .int .i64 0, .int .i64 0, .int .i64 0, .int .i64 ld] 42)
            have B3 := ((Below.refl wr.heap.size wr).alloc (Nat.le_refl _) (.cells #[.int .i64 x.leap, .int .i64 (ms + 1), .int .u32 idv, .int .i64 0, .int .i64 0, .int .i64 0, .int .i64 0, .int .i64 ld] 42)).drew
            generalize hW3 : (wr.alloc (.cells #[.int .i64 x.leap, .int .i64 (ms + 1), .int .u32 idv, .int .i64 0, .int .i64 0, .int .i64 0, .int .i64 0, .int .i64 ld] 42)).drew = W3 at *
            have y3' : W3.heap[wr.heap.size]? = some (.cells #[.int .i64 x.leap, .int .i64 (ms + 1), .int .u32 idv, .int .i64 0, .int .i64 0, .int .i64 0, .int .i64 0, .int .i64 ld] 42 (0, 0)) := by rw [← hW3]; exact y3
            have z3' : W3.heap.size = wr.heap.size + 1 := by rw [← hW3]; exact z3
            have lw2 : w1.heap.size < wr.heap.size := bx1
            have B1T := HW.out.2.2.trans (B3.mono (Nat.le_of_lt bx1))
            have BT := HW.out.2.1.trans (B3.mono (by have := HY.out.2.2.2.2; omega))
            obtain ⟨s0, s1⟩ := two_in18 ((B1T.block _ (by have := HY.out.2.2.2.2; omega)).trans HY.out.2.1)
            have cM : Calls Try.prog 9 #[u18, u19, .agg #[.int .i64 lo, .int .i64 hi]] W3 fun e w' => e = .returned (.int .i64 mo) ∧ Below W3.heap.size W3 w' := by
              rw [← HM.out.2.2.1]
              exact rmean18_any (offsC l kept) (distC p l kept at_) (by omega) (by omega) (offs_i64 l kept tl) (dist_i64 p l kept at_) lo hi l0 h0 W3 (HT.out.1.kept (fun b hb => B3.block b hb.2)) (HT.out.2.kept (fun b hb => B3.block b hb.2)) (fun b hb => by omega) (fun b hb => by omega)
            have H3 := Lib.hid (And.intro y3' (And.intro z3' (And.intro B3 (And.intro B1T BT))))
            clear y3 z3 y3' z3' hW3 B3 B1T BT HS hw1 f1
            go_wp2_with fail
            (with_reducible refine cM.mono ?_)
            rintro e w4 ⟨rfl, G4⟩
            obtain ⟨y3, z3, B3, B1T, BT⟩ := H3.out
            have y4 := (G4.block wr.heap.size (by omega)).trans y3
            have B4 := B3.trans (G4.mono (by omega))
            obtain ⟨⟨c0, c1, c2, c3, c4, c5, c6, c7⟩, fr⟩ := eight_in18 y4
            have z4 := G4.size
            have H4 := Lib.hid (And.intro y4 (And.intro B4 z4))
            clear y3 z3 B3 B1T BT y4 B4 s0 s1 cM z4
            go_wp2_with fail
            obtain ⟨y4, B4, z4⟩ := H4.out
            have y5 := block_set 3 (.int .i64 mo) y4
            simp only [List.setIfInBounds_toArray, List.set_cons_succ, List.set_cons_zero] at y5
            have B5 := set_below18 B4 wr.heap.size 3 (.int .i64 mo) (Nat.le_refl _)
            clear y4 B4 z4 H4 c0 c1 c2 c3 c4 c5 c6 c7 fr
            have z5 : wr.heap.size ≤ (w4.setCell ⟨wr.heap.size, 3, none⟩ (.int .i64 mo)).heap.size := B5.size
            generalize hW5 : w4.setCell ⟨wr.heap.size, 3, none⟩ (.int .i64 mo) = W5 at *
            clear hW5
            obtain ⟨jj, hjj⟩ : ∃ j, jitC (offsC l kept) (distC p l kept at_) mo = j := ⟨_, rfl⟩
            have hmx : max jj x.t.jit = mj := by rw [← hjj, ← HM.out.2.2.1]; exact HM.out.2.2.2.1
            have f2 := fun ts t W => run_max18 .i64 jj x.t.jit mj hmx ts t W
            have imo : -9223372036854775808 ≤ mo ∧ mo ≤ 9223372036854775807 := by
              rw [← HM.out.2.2.1]
              unfold combOff meanC clampI
              exact ⟨Int.le_trans (by decide) (cutI_range _).1, (cutI_range _).2⟩
            have cJ := fun d os => Calls.regrown_of (rjit18_any (offsC l kept) (distC p l kept at_) (by omega) (by omega) (offs_i64 l kept tl) (dist_i64 p l kept at_) mo imo (grow (redrawn W5 d) os) (HT.out.1.kept (fun b hb => (B5.trans ((below_regrown W5 d os).mono z5)).block b hb.2)) (HT.out.2.kept (fun b hb => (B5.trans ((below_regrown W5 d os).mono z5)).block b hb.2)) (fun b hb => by have := (below_regrown W5 d os).size; omega) (fun b hb => by have := (below_regrown W5 d os).size; omega))
            rw [hjj] at cJ
            have ijj := jitC18 (offsC l kept) (distC p l kept at_) mo
            rw [hjj] at ijj
            have MO := Lib.hid imo
            have MJ := Lib.hid (show -9223372036854775808 ≤ mj ∧ mj ≤ 9223372036854775807 by have := TX.out.t.jit; omega)
            clear ijj
            have o3 := (eight_in18 y5).1.2.2.2.1
            have q8 : W5.cell? ⟨w1.heap.size, 8, none⟩ = some (.int .i64 x.t.jit) := (B5.cell bx1).trans (by have := HC.out.2.2.2.1; simpa using this)
            have k3 := cell_regrown o3
            have k8 := cell_regrown q8
            have H5 := Lib.hid (And.intro y5 (And.intro B5 z5))
            clear o3 q8 y5 B5 z5 hjj hmx imo
            refine wp_region_below_tail 9 (by kernel_rfl) (by kernel_rfl) ?_
            simp only [List.take_succ_cons, List.take_zero, List.drop_succ_cons, List.drop_zero]
            repeat (quiet_step (first | (with_reducible exact cJ _ _) | (exact cJ _ _)))
            refine wpQuiet_nil ?_
            intro W6 hw
            replace hw := again18 hw
            obtain ⟨y5, B5, z5⟩ := H5.out
            have y6 := (hw.block _ (Array.getElem?_eq_some_iff.1 y5).1).trans y5
            have B6 := B5.trans (hw.mono z5)
            obtain ⟨⟨c0, c1, c2, c3, c4, c5, c6, c7⟩, fr⟩ := eight_in18 y6
            have H6 := Lib.hid (And.intro y6 B6)
            clear hw y5 B5 z5 y6 B6 cJ k3 k8 f2
            go_upto_region 15 with fail
            obtain ⟨y6, B6⟩ := H6.out
            have y7 := block_set 4 (.int .i64 mj) y6
            simp only [List.setIfInBounds_toArray, List.set_cons_succ, List.set_cons_zero] at y7
            have B7 := set_below18 B6 wr.heap.size 4 (.int .i64 mj) (Nat.le_refl _)
            generalize hW7 : W6.setCell ⟨wr.heap.size, 4, none⟩ (.int .i64 mj) = W7 at *
            clear hW7 y6 B6 H6 c0 c1 c2 c3 c4 c5 c6 c7 fr
            have r3 : W7.cell? ⟨w1.heap.size, 3, none⟩ = some (.int .i64 x.del) := (B7.cell bx1).trans (by have := HD.out.2.1; simpa using this)
            have r6 : W7.cell? ⟨w1.heap.size, 6, none⟩ = some (.int .i64 x.t.del) := (B7.cell bx1).trans (by have := HC.out.2.1; simpa using this)
            have cA := radd_any x.del x.t.del TX.out.del.1 TX.out.del.2 TX.out.t.del.1 TX.out.t.del.2
            rw [HM.out.2.2.2.2.1] at cA
            obtain ⟨⟨c0, c1, c2, c3, c4, c5, c6, c7⟩, fr⟩ := eight_in18 y7
            have H7 := Lib.hid (And.intro y7 B7)
            clear y7 B7
            go_wp2_with fail
            (with_reducible refine (cA _).mono ?_)
            rintro e w8 ⟨rfl, rfl⟩
            clear r3 r6 cA
            go_upto_region 16 with fail
            obtain ⟨y7, B7⟩ := H7.out
            have y8 := block_set 5 (.int .i64 dl) y7
            simp only [List.setIfInBounds_toArray, List.set_cons_succ, List.set_cons_zero] at y8
            have B8 := set_below18 B7 wr.heap.size 5 (.int .i64 dl) (Nat.le_refl _)
            have z8 : wr.heap.size ≤ (W7.setCell ⟨wr.heap.size, 5, none⟩ (.int .i64 dl)).heap.size := B8.size
            generalize hW8 : W7.setCell ⟨wr.heap.size, 5, none⟩ (.int .i64 dl) = W8 at *
            clear hW8 y7 B7 H7 c0 c1 c2 c3 c4 c5 c6 c7 fr
            have r4 : W8.cell? ⟨w1.heap.size, 4, none⟩ = some (.int .i64 x.disp) := (B8.cell bx1).trans (by have := HD.out.2.2; simpa using this)
            have r7 : W8.cell? ⟨w1.heap.size, 7, none⟩ = some (.int .i64 x.t.disp) := (B8.cell bx1).trans (by have := HC.out.2.2.1; simpa using this)
            have cA := radd_any x.disp x.t.disp TX.out.disp.1 TX.out.disp.2 TX.out.t.disp.1 TX.out.t.disp.2
            have ia1 := addI18 x.disp x.t.disp
            obtain ⟨a1, ha1⟩ : ∃ a, addI x.disp x.t.disp = a := ⟨_, rfl⟩
            rw [ha1] at cA
            rw [ha1] at ia1
            have H8 := Lib.hid (And.intro y8 (And.intro B8 (And.intro z8 ha1)))
            clear y8 B8 z8 ha1
            go_wp2_with fail
            (with_reducible refine (cA _).mono ?_)
            rintro e w9 ⟨rfl, rfl⟩
            clear r4 r7 cA
            go_upto_region 17 with fail
            obtain ⟨y8, B8, z8, ha1⟩ := H8.out
            have isb := subI18 at_ x.t.at_
            have cS := rsub_any at_ x.t.at_ a0.1 a0.2 TX.out.t.at_.1 TX.out.t.at_.2
            obtain ⟨sb, hsb⟩ : ∃ s, subI at_ x.t.at_ = s := ⟨_, rfl⟩
            rw [hsb] at cS isb
            obtain ⟨m0, hm0⟩ : ∃ m, max 0 sb = m := ⟨_, rfl⟩
            have im0 : -9223372036854775808 ≤ m0 ∧ m0 ≤ 9223372036854775807 := by omega
            have f3 := fun ts t W => run_max18 .i64 0 sb m0 hm0 ts t W
            have cM := rfmul_any p.phi m0 tp.phi.1 tp.phi.2 im0.1 im0.2
            have imu := mulI18 p.phi m0
            obtain ⟨mu, hmu⟩ : ∃ m, mulI p.phi m0 = m := ⟨_, rfl⟩
            rw [hmu] at cM imu
            have cA2 := radd_any a1 mu ia1.1 ia1.2 imu.1 imu.2
            have ia2 := addI18 a1 mu
            obtain ⟨a2, ha2⟩ : ∃ a, addI a1 mu = a := ⟨_, rfl⟩
            rw [ha2] at cA2 ia2
            have P8 : W8.heap[w.heap.size]? = some (.cells (pmA p) 45 (0, 0)) := (B8.block _ (by have := HY.out.2.2.2.2; omega)).trans ((HW.out.2.2.block _ (by have := HY.out.2.2.2.2; omega)).trans HY.out.1)
            unfold pmA at P8
            obtain ⟨n0, n1, n2, n3, n4, n5, n6, n7, n8, n9, n10, n11⟩ := twelve_in18 P8
            have r9 : W8.cell? ⟨w1.heap.size, 9, none⟩ = some (.int .i64 x.t.at_) := (B8.cell bx1).trans (by have := HC.out.2.2.2.2.1; simpa using this)
            have k4 := cell_regrown n4
            have k9 := cell_regrown r9
            have e1 := fun d os => (Calls.regrown_of ((cS (grow (redrawn W8 d) os)).mono fun e w' h => And.intro h.1 (h.2 ▸ Below.refl _ _)))
            have e2 := fun d os => (Calls.regrown_of ((cM (grow (redrawn W8 d) os)).mono fun e w' h => And.intro h.1 (h.2 ▸ Below.refl _ _)))
            have e3 := fun d os => (Calls.regrown_of ((cA2 (grow (redrawn W8 d) os)).mono fun e w' h => And.intro h.1 (h.2 ▸ Below.refl _ _)))
            have H9 := Lib.hid (And.intro y8 (And.intro B8 (And.intro z8 (And.intro ha1 (And.intro hsb (And.intro hm0 (And.intro hmu ha2)))))))
            clear y8 B8 z8 ha1 hsb hm0 hmu ha2 n0 n1 n2 n3 n4 n5 n6 n7 n8 n9 n10 n11 r9 P8 isb im0 imu cS cM cA2 H8
            refine wp_region_quiet_below (by kernel_rfl) (by kernel_rfl) ?_
            repeat (quiet_step (first | (with_reducible exact e1 _ _) | (with_reducible exact e2 _ _) | (with_reducible exact e3 _ _) | (exact e1 _ _) | (exact e2 _ _) | (exact e3 _ _)))
            refine wpQuiet_nil ?_
            intro W9 hw
            replace hw := again18 hw
            obtain ⟨y8, B8, z8, ha1, hsb, hm0, hmu, ha2⟩ := H9.out
            have y9 := (hw.block _ (Array.getElem?_eq_some_iff.1 y8).1).trans y8
            have B9 := B8.trans (hw.mono z8)
            obtain ⟨⟨c0, c1, c2, c3, c4, c5, c6, c7⟩, fr⟩ := eight_in18 y9
            have imj : -9223372036854775808 ≤ mj ∧ mj ≤ 9223372036854775807 := MJ.out
            have imo : -9223372036854775808 ≤ mo ∧ mo ≤ 9223372036854775807 := MO.out
            have cA3 := radd_any a2 mj ia2.1 ia2.2 imj.1 imj.2
            have ia3 := addI18 a2 mj
            obtain ⟨a3, ha3⟩ : ∃ a, addI a2 mj = a := ⟨_, rfl⟩
            rw [ha3] at cA3 ia3
            have cB := rabs_any mo imo.1 imo.2
            have iab : -9223372036854775808 ≤ absI mo ∧ absI mo ≤ 9223372036854775807 := absI18 mo
            obtain ⟨ab, hab⟩ : ∃ a, absI mo = a := ⟨_, rfl⟩
            rw [hab] at cB iab
            have cA4 := radd_any a3 ab ia3.1 ia3.2 iab.1 iab.2
            have hdp : addI a3 ab = dp := by
              rw [← HM.out.2.2.2.2.2, ← ha3, ← hab, ← ha2, ← hmu, ← hm0, ← hsb, ← ha1]
              rfl
            rw [hdp] at cA4
            have HR := Lib.hid (And.intro y9 B9)
            clear e1 e2 e3 k4 k9 f3 hw y8 B8 z8 ha1 hsb hm0 hmu ha2 ha3 hab hdp H9 ia1 ia2 ia3 iab imj imo y9 B9
            go_wp2_with fail
            (with_reducible refine (cA3 _).mono ?_)
            rintro e v1 ⟨rfl, rfl⟩
            go_wp2_with fail
            (with_reducible refine (cB _).mono ?_)
            rintro e v2 ⟨rfl, rfl⟩
            go_wp2_with fail
            (with_reducible refine (cA4 _).mono ?_)
            rintro e v3 ⟨rfl, rfl⟩
            clear cA3 cB cA4
            go_upto_region 20 with fail
            obtain ⟨y9, B9⟩ := HR.out
            have yA := block_set 6 (.int .i64 dp) y9
            simp only [List.setIfInBounds_toArray, List.set_cons_succ, List.set_cons_zero] at yA
            have BA := set_below18 B9 wr.heap.size 6 (.int .i64 dp) (Nat.le_refl _)
            generalize hWA : W9.setCell ⟨wr.heap.size, 6, none⟩ (.int .i64 dp) = WA at *
            clear hWA c0 c1 c2 c3 c4 c5 c6 c7 fr y9 B9 HR
            have v2 := (BA.block (w.heap.size + 1 + 1) (by have := HY.out.2.2.2.2; omega)).trans ((HW.out.2.2.block (w.heap.size + 1 + 1) (by have := HY.out.2.2.2.2; omega)).trans HY.out.2.2.1)
            have BZ : Below w.heap.size w WA := HW.out.2.1.trans (BA.mono (by have := HY.out.2.2.2.2; omega))
            have oo := sy_one18 x.leap (ms + 1) idv mo mj dl dp ld
            have HZ := Lib.hid (And.intro v2 BZ)
            clear BA BZ
            go_wp2_with (first | (refine at_load_sy18 rfl _ rfl _ rfl yA rfl ?_) | (refine at_store_sy18 rfl _ _ rfl _ rfl rfl v2 rfl rfl oo ?_))
            obtain ⟨v2', BZ⟩ := HZ.out
            have C1 := setRow_heap WA (w.heap.size + 1 + 1) _ #[.int .i64 x.leap, .int .i64 (ms + 1), .int .u32 idv, .int .i64 mo, .int .i64 mj, .int .i64 dl, .int .i64 dp, .int .i64 ld] _ _ v2'
            have BF := below_setRow18 BZ (g := w.heap.size + 1 + 1) (by omega) #[.int .i64 x.leap, .int .i64 (ms + 1), .int .u32 idv, .int .i64 mo, .int .i64 mj, .int .i64 dl, .int .i64 dp, .int .i64 ld]
            clear yA v2 v2' BZ HZ oo
            generalize WA.setRow (w.heap.size + 1 + 1) #[.int .i64 x.leap, .int .i64 (ms + 1), .int .u32 idv, .int .i64 mo, .int .i64 mj, .int .i64 dl, .int .i64 dp, .int .i64 ld] = WF at *
            exact bodyPost_ret (results_cell_tmp18 Try.results16 _ rfl rfl (loadVar_sy18 C1 rfl)) rfl ⟨rfl, BF⟩
    · have d2 : ((ids.length : Int) == (l.length : Int)) = false := beq_eq_false_iff_ne.2 (by omega)
      have d3 : ((ids.length : Int) != (l.length : Int)) = true := by simp [g2]; omega
      have hb : combB l ids kept old = false := by unfold combB; rw [decide_eq_false]; exact fun h => g2 h.2
      have hy : combY p l ids kept old lo hi at_ = Sy.zero := by unfold combY; rw [hb]; rfl
      rw [hb, hy]
      unfold Sy.val Sy.cells Sy.zero
      dsimp only
      generalize leadI l kept old = ld at *
      clear hb hy
      go_enter Try.func16, Try.ntmps16
      go_wp2_with (rw [hw0])
      (with_reducible refine cC.mono ?_)
      rintro e w1 ⟨rfl, B1⟩
      obtain ⟨x0, x1, x2, B0, z0⟩ := X.out
      have y2 := (B1.block _ (by omega)).trans x2
      have BW := B0.trans (B1.mono (by omega))
      obtain ⟨⟨c0, c1, c2, c3, c4, c5, c6, c7⟩, fr⟩ := eight_in18 y2
      have HY := Lib.hid (And.intro y2 BW)
      clear x0 x1 x2 B0 z0 B1 y2 BW cC X
      go_wp2_with fail
      obtain ⟨y2, BW⟩ := HY.out
      have C1 := put8_at (a0 := .int .i64 0) (a1 := .int .i64 0) (a2 := .int .u32 0) (a3 := .int .i64 0) (a4 := .int .i64 0) (a5 := .int .i64 0) (a6 := .int .i64 0) (a7 := .int .i64 0) y2
      have BF := put8_below BW (w.heap.size + 1 + 1) (by omega) (.int .i64 0) (.int .i64 0) (.int .u32 0) (.int .i64 0) (.int .i64 0) (.int .i64 0) (.int .i64 0) (.int .i64 0)
      clear c0 c1 c2 c3 c4 c5 c6 c7 fr
      obtain ⟨⟨c0, c1, c2, c3, c4, c5, c6, c7⟩, _⟩ := eight_in18 C1
      unfold put8 at *
      refine bodyPost_ret (v := .tuple #[.agg #[.int .i64 0, .int .i64 0, .int .u32 0, .int .i64 0, .int .i64 0, .int .i64 0, .int .i64 0, .int .i64 0], .bool false]) ?_ rfl ⟨rfl, BF⟩
      simp [results, Try.results16, go_sem, c0, c1, c2, c3, c4, c5, c6, c7]
end Go.Proofs.Ytekdablolacgfaa.W
