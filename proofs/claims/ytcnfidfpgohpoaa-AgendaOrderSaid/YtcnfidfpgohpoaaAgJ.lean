/- What the laws of layer 8 call besides: a call at both agendas. -/
import Derived.Test.YtcnfidfpgohpoaaAgI
import Derived.Test.YtcnfidfpgohpoaaAgX
import Derived.Deep.RegionHeld3
namespace Go.Proofs.Ytcnfidfpgohpoaa.W
open Go.RowKit Go.Sort
set_option linter.unusedVariables false
set_option linter.unusedSimpArgs false
/-- A call. -/
structure Bc where
  kind : Int
  what : Int
  ticket : Int
  at_ : Int
  data : List UInt8
def bcE (x : Bc) : List Value := [.int .i64 x.kind, .int .i64 x.what, .int .i64 x.ticket, .int .i64 x.at_, .string (bs x.data)]
theorem bcE_length (x : Bc) : (bcE x).length = 5 := rfl
structure Bc.Typed (x : Bc) : Prop where
  kind : -9223372036854775808 ≤ x.kind ∧ x.kind ≤ 9223372036854775807
  what : -9223372036854775808 ≤ x.what ∧ x.what ≤ 9223372036854775807
  ticket : -9223372036854775808 ≤ x.ticket ∧ x.ticket ≤ 9223372036854775807
  at_ : -9223372036854775808 ≤ x.at_ ∧ x.at_ ≤ 9223372036854775807
  data : x.data.length ≤ maxLen
def bcS (a : Ag) (x : Bc) : Ag := if x.kind = 0 then putS a x.at_ x.what x.data else if x.kind = 1 then canS a x.ticket else if x.kind = 2 then movS a x.ticket x.at_ else if x.kind = 3 then takS a x.at_ else if x.kind = 4 then dblS a x.ticket x.at_ else a
theorem bc_ok {a : Ag} (h : a.Ok) (x : Bc) (t : x.Typed) : (bcS a x).Ok := by
  have := t.at_.2
  unfold bcS
  split
  · exact put_ok h _ _ _ this
  · split
    · exact can_ok h _
    · split
      · exact mov_ok h _ _ this
      · split
        · exact tak_ok h _
        · split
          · exact dbl_ok h _ _ this
          · exact h
theorem put_n (a : Ag) (at_ kind : Int) (data : List UInt8) : (putS a at_ kind data).n ≤ a.n + 1 := by
  unfold putS
  split
  · exact Int.le_refl _
  · omega
theorem bc_n (a : Ag) (x : Bc) : (bcS a x).n ≤ a.n + 1 := by
  unfold bcS
  split
  · exact put_n _ _ _ _
  · split
    · show a.n ≤ _; omega
    · split
      · unfold movS
        split
        · omega
        · split
          · show a.n ≤ _; omega
          · omega
      · split
        · unfold takS
          split
          · show a.n ≤ _; omega
          · omega
        · split
          · unfold dblS
            split
            · exact put_n _ _ _ _
            · omega
          · omega
/-- Both agendas, apart. -/
structure Both8 (w0 w : World) (pc pr : Nat) (a : Ag) : Prop where
  both : ∃ F G, AgIn F w pc a ∧ RaIn G w pr a ∧ (∀ k, F k → ¬ G k) ∧ (∀ k, F k → w0.heap.size ≤ k) ∧ (∀ k, G k → w0.heap.size ≤ k)
  below : Below w0.heap.size w0 w
theorem Both8.kept {w0 w w' : World} {pc pr : Nat} {a : Ag} (h : Both8 w0 w pc pr a) (t : Below w.heap.size w w') : Both8 w0 w' pc pr a := by
  obtain ⟨⟨F, G, h1, h2, h3, h4, h5⟩, hB⟩ := h
  exact ⟨⟨F, G, h1.below t, h2.below t, h3, h4, h5⟩, hB.trans (t.mono hB.size)⟩
theorem both8_step {w0 wa w1 w1' w2 : World} {pc pr : Nat} {a : Ag} {F G : Nat → Prop} (lt1 : ∀ k, F k → k < wa.heap.size) (lt2 : ∀ k, G k → k < wa.heap.size) (h3 : ∀ k, F k → ¬ G k) (h4 : ∀ k, F k → w0.heap.size ≤ k) (h5 : ∀ k, G k → w0.heap.size ≤ k)
    (hB : Below w0.heap.size w0 wa) (t1 : Touch F wa w1) (hC1 : AgIn (Gr F wa w1) w1 pc a) (tm : Below w1.heap.size w1 w1') (t2 : Touch G w1' w2) (hR2 : RaIn (Gr G w1' w2) w2 pr a) : Both8 w0 w2 pc pr a := by
  have d1 : ∀ k, Gr F wa w1 k → ¬ G k := by
    rintro k (hk | hk) hg
    · exact h3 k hk hg
    · have := lt2 k hg
      omega
  have B1 := t1.below hB hB.size h4
  have B2 := B1.trans (tm.mono B1.size)
  refine ⟨⟨Gr F wa w1, Gr G w1' w2, (hC1.below tm).kept t2 d1, hR2, ?_, ?_, ?_⟩, t2.below B2 B2.size h5⟩
  · rintro k hk (hg | hg)
    · exact d1 k hk hg
    · have := hC1.lt k hk
      have := tm.size
      omega
  · rintro k (hk | hk)
    · exact h4 k hk
    · have := hB.size
      omega
  · rintro k (hk | hk)
    · exact h5 k hk
    · have := B2.size
      omega
theorem bc_cells {w : World} {b : Nat} {x0 x1 x2 x3 x4 : Value} {t : TypeId} (h : w.heap[b]? = some (.cells #[x0, x1, x2, x3, x4] t (0, 0))) :
    w.cell? ⟨b, 1, none⟩ = some x1 ∧ w.cell? ⟨b, 2, none⟩ = some x2 ∧ w.cell? ⟨b, 3, none⟩ = some x3 ∧ w.cell? ⟨b, 4, none⟩ = some x4 := by
  refine ⟨?_, ?_, ?_, ?_⟩ <;> simp [World.cell?, h]
set_option maxRecDepth 100000 in
set_option maxHeartbeats 6400000 in
theorem does8_any {w0 : World} {pc pr : Nat} {a : Ag} (ok : a.Ok) (n1 : a.n ≤ 1000000) (x : Bc) (tx : x.Typed) (w : World) (hb : Both8 w0 w pc pr a) :
    Calls Try.prog 11 #[.pointer (some ⟨pc, 0, none⟩), .pointer (some ⟨pr, 0, none⟩), .agg #[.int .i64 x.kind, .int .i64 x.what, .int .i64 x.ticket, .int .i64 x.at_, .string (bs x.data)]] w fun e w' => e = .returned (.bool true) ∧ Both8 w0 w' pc pr (bcS a x) := by
  obtain ⟨kd, wh, tk, t, da⟩ := x
  obtain ⟨⟨k0, k1⟩, ⟨v0, v1⟩, ⟨u0, u1⟩, ⟨t0, t1⟩, hd⟩ := tx
  simp only [] at k0 k1 v0 v1 u0 u1 t0 t1 hd ⊢
  obtain ⟨wa, hwa⟩ : ∃ wa, wa = w.alloc (.cells #[.int .i64 kd, .int .i64 wh, .int .i64 tk, .int .i64 t, .string (bs da)] 33) := ⟨_, rfl⟩
  have hA : Below w.heap.size w wa := by rw [hwa]; exact Below.alloc (Below.refl _ _) (Nat.le_refl _) _
  have hab : wa.heap[w.heap.size]? = some (.cells #[.int .i64 kd, .int .i64 wh, .int .i64 tk, .int .i64 t, .string (bs da)] 33 (0, 0)) := by rw [hwa]; exact heap_alloc_new _ _
  have l1 : w.heap.size < wa.heap.size := (Array.getElem?_eq_some_iff.1 hab).1
  have HBo := Lib.hid (hb.kept hA)
  obtain ⟨⟨F, G, h1, h2, h3, h4, h5⟩, hB⟩ := hb
  have n1' : ¬ F w.heap.size := fun h => by have := h1.lt _ h; omega
  have n2' : ¬ G w.heap.size := fun h => by have := h2.lt _ h; omega
  have lt1 : ∀ k, F k → k < wa.heap.size := fun k hk => Nat.lt_trans (h1.lt k hk) l1
  have lt2 : ∀ k, G k → k < wa.heap.size := fun k hk => Nat.lt_trans (h2.lt k hk) l1
  have hC := h1.below hA
  have hR := h2.below hA
  have hBA := hB.trans (hA.mono hB.size)
  have d2 : ∀ k, G k → ¬ F k := fun k hg hf => h3 k hf hg
  clear h1 h2 hB hA
  by_cases q0 : kd = 0
  · subst q0
    have es : bcS a ⟨0, wh, tk, t, da⟩ = putS a t wh da := by unfold bcS; rw [if_pos rfl]
    rw [es]
    have y1 := gput_any ok n1 t wh da t0 t1 v0 v1 hd wa hC
    rw [hwa] at y1
    go_enter Try.func11, Try.ntmps11
    go_wp2_with fail
    (with_reducible refine y1.mono ?_)
    rw [← hwa]
    clear y1
    rintro e w1 ⟨rfl, hC1, tt1⟩
    have y2 := rput_any t wh da (by have := ok.room; omega) ok.n n1 w1 (hR.kept tt1 d2)
    obtain ⟨c1, c2, c3, c4⟩ := bc_cells ((tt1.block _ l1 n1').trans hab)
    have hl1 := Nat.lt_of_lt_of_le l1 tt1.size
    go_wp2_with fail
    (with_reducible refine y2.mono ?_)
    rintro e w2 ⟨rfl, hR2, tt2⟩
    have FIN := Lib.hid (both8_step lt1 lt2 h3 h4 h5 hBA tt1 hC1 (Below.refl _ _) tt2 hR2)
    clear y2 hR2 hC1
    go_wp2_with fail
    go_ret
    exact ⟨rfl, FIN.out⟩
  · by_cases q1 : kd = 1
    · subst q1
      have es : bcS a ⟨1, wh, tk, t, da⟩ = canS a tk := by simp [bcS]
      rw [es]
      clear es
      obtain ⟨wd, hwd⟩ : ∃ wd, wd = wa.drew := ⟨_, rfl⟩
      have hD : Below wa.heap.size wa wd := by rw [hwd]; exact (Below.refl _ _).drew
      have hDs : wd.heap.size = wa.heap.size := by rw [hwd]; rfl
      have hab' : wd.heap[w.heap.size]? = _ := (hD.block _ l1).trans hab
      have hC' := hC.below hD
      have hR' := hR.below hD
      have hBD := hBA.trans (hD.mono hBA.size)
      have lt1' : ∀ k, F k → k < wd.heap.size := fun k hk => by rw [hDs]; exact lt1 k hk
      have lt2' : ∀ k, G k → k < wd.heap.size := fun k hk => by rw [hDs]; exact lt2 k hk
      have l1' : w.heap.size < wd.heap.size := by rw [hDs]; exact l1
      clear hC hR hBA lt1 lt2 hab
      have L1 := l1'
      rw [hwd, hwa] at hC' hab' L1
      go_enter Try.func11, Try.ntmps11
      go_wp2_with fail
      go_region_held3 (fun w' => w'.cell? ⟨w.heap.size, 2, none⟩ = some (.int .i64 tk))
        (first | exact (bc_cells hab').2.1 | exact (bc_cells ((tt1.block _ L1 n1').trans hab')).2.1 | exact (bc_cells ((tt2.block _ L2 n2').trans ((tt1.block _ L1 n1').trans hab'))).2.1)
        (first
          | (go_at_call 19; refine (gcan_any ok n1 tk u0 u1 _ hC').mono ?_; rintro e w1 ⟨rfl, hC1, tt1⟩; have L2 := Nat.lt_of_lt_of_le L1 tt1.size)
          | (go_at_call 24; refine (rcan_any tk (by have := ok.room; omega) _ ((show RaIn G _ pr a by rw [hwd, hwa] at hR'; exact hR').kept tt1 d2)).mono ?_; rintro e w2 ⟨rfl, hR2, tt2⟩))
      rw [← hwa, ← hwd] at hC1 tt1
      have FIN := Lib.hid (both8_step lt1' lt2' h3 h4 h5 hBD tt1 hC1 (Below.refl _ _) tt2 hR2)
      clear hC1 hR2
      go_wp2_with fail
      go_ret
      exact ⟨rfl, FIN.out⟩
    · by_cases q2 : kd = 2
      · subst q2
        have es : bcS a ⟨2, wh, tk, t, da⟩ = movS a tk t := by simp [bcS]
        rw [es]
        clear es
        obtain ⟨wd, hwd⟩ : ∃ wd, wd = wa.drew := ⟨_, rfl⟩
        have hD : Below wa.heap.size wa wd := by rw [hwd]; exact (Below.refl _ _).drew
        have hDs : wd.heap.size = wa.heap.size := by rw [hwd]; rfl
        have hab' : wd.heap[w.heap.size]? = _ := (hD.block _ l1).trans hab
        have hC' := hC.below hD
        have hR' := hR.below hD
        have hBD := hBA.trans (hD.mono hBA.size)
        have lt1' : ∀ k, F k → k < wd.heap.size := fun k hk => by rw [hDs]; exact lt1 k hk
        have lt2' : ∀ k, G k → k < wd.heap.size := fun k hk => by rw [hDs]; exact lt2 k hk
        have l1' : w.heap.size < wd.heap.size := by rw [hDs]; exact l1
        clear hC hR hBA lt1 lt2 hab
        have L1 := l1'
        rw [hwd, hwa] at hC' hab' L1
        go_enter Try.func11, Try.ntmps11
        go_wp2_with fail
        go_region_held3 (fun w' => w'.cell? ⟨w.heap.size, 2, none⟩ = some (.int .i64 tk) ∧ w'.cell? ⟨w.heap.size, 3, none⟩ = some (.int .i64 t))
          (first | exact ⟨(bc_cells hab').2.1, (bc_cells hab').2.2.1⟩ | exact ⟨(bc_cells B1).2.1, (bc_cells B1).2.2.1⟩ | exact ⟨(bc_cells ((tt2.block _ L2 n2').trans B1)).2.1, (bc_cells ((tt2.block _ L2 n2').trans B1)).2.2.1⟩)
          (first
            | (go_at_call 20; refine (gmov_any ok n1 tk t u0 u1 t0 t1 _ hC').mono ?_; rintro e w1 ⟨rfl, hC1, tt1⟩; have B1 := (tt1.block _ L1 n1').trans hab'; have L2 := Nat.lt_of_lt_of_le L1 tt1.size)
            | (go_at_call 25; refine (rmov_any ok tk t _ ((show RaIn G _ pr a by rw [hwd, hwa] at hR'; exact hR').kept tt1 d2)).mono ?_; rintro e w2 ⟨rfl, hR2, tt2⟩))
        rw [← hwa, ← hwd] at hC1 tt1
        have FIN := Lib.hid (both8_step lt1' lt2' h3 h4 h5 hBD tt1 hC1 (Below.refl _ _) tt2 hR2)
        clear hC1 hR2
        go_wp2_with fail
        go_ret
        exact ⟨rfl, FIN.out⟩
      · by_cases q3 : kd = 3
        · subst q3
          have es : bcS a ⟨3, wh, tk, t, da⟩ = takS a t := by simp [bcS]
          rw [es]
          clear es
          have y1 := gtak_any ok n1 t t0 t1 wa hC
          have he := it_eql (takV a t) (takV a t)
          rw [(itEq_iff _ _).2 rfl] at he
          unfold It.val at he
          rw [hwa] at y1
          go_enter Try.func11, Try.ntmps11
          go_wp2_with fail
          (with_reducible refine y1.mono ?_)
          rw [← hwa]
          clear y1
          rintro e w1 ⟨rfl, hC1, tt1⟩
          have hB1' : Below w1.heap.size w1 (w1.alloc (.cells #[.int .i64 (takV a t).at_, .int .i64 (takV a t).kind, .string (bs (takV a t).data), .int .i64 (takV a t).ticket] 39)) := (Below.refl _ _).alloc (Nat.le_refl _) _
          have hyb := heap_alloc_new w1 (.cells #[.int .i64 (takV a t).at_, .int .i64 (takV a t).kind, .string (bs (takV a t).data), .int .i64 (takV a t).ticket] 39)
          have ls := World.size_alloc w1 (.cells #[.int .i64 (takV a t).at_, .int .i64 (takV a t).kind, .string (bs (takV a t).data), .int .i64 (takV a t).ticket] 39)
          have y2 := rtak_any ok t _ ((hR.kept tt1 d2).below hB1')
          have hl1 := Nat.lt_of_lt_of_le l1 tt1.size
          obtain ⟨c1, c2, c3, c4⟩ := bc_cells ((tt1.block _ l1 n1').trans hab)
          have nG : ¬ G w1.heap.size := fun h => by have := lt2 _ h; have := tt1.size; omega
          clear hC hR
          go_wp2_with fail
          (with_reducible refine y2.mono ?_)
          clear y2
          generalize w1.alloc (.cells #[.int .i64 (takV a t).at_, .int .i64 (takV a t).kind, .string (bs (takV a t).data), .int .i64 (takV a t).ticket] 39) = w1' at *
          rintro e w2 ⟨rfl, hR2, tt2⟩
          have FIN := Lib.hid (both8_step lt1 lt2 h3 h4 h5 hBA tt1 hC1 hB1' tt2 hR2)
          obtain ⟨z0, z1, z2, z3⟩ := four_cells ((tt2.block _ (by omega) nG).trans hyb)
          have lz := Nat.lt_of_lt_of_le (show w1.heap.size < w1'.heap.size by omega) tt2.size
          clear hC1 hR2
          go_wp2_with fail
          go_ret
          exact ⟨rfl, FIN.out.kept (by have : True := trivial; repeat' (first | (with_reducible exact Below.refl _ _) | (with_reducible assumption) | (with_reducible refine below_drewN ?_ _) | (with_reducible refine Below.drew ?_) | (with_reducible refine Below.setCell ?_ ?_ _) | (with_reducible refine Below.alloc ?_ ?_ _) | (simp; done) | (simp; omega) | omega))⟩
        · by_cases q4 : kd = 4
          · subst q4
            have es : bcS a ⟨4, wh, tk, t, da⟩ = dblS a tk t := by simp [bcS]
            rw [es]
            have y1 := gdbl_any ok n1 tk t u0 u1 t0 t1 wa hC
            rw [hwa] at y1
            go_enter Try.func11, Try.ntmps11
            go_wp2_with fail
            (with_reducible refine y1.mono ?_)
            rw [← hwa]
            clear y1
            rintro e w1 ⟨rfl, hC1, tt1⟩
            have y2 := rdbl_any ok n1 tk t w1 (hR.kept tt1 d2)
            obtain ⟨c1, c2, c3, c4⟩ := bc_cells ((tt1.block _ l1 n1').trans hab)
            have hl1 := Nat.lt_of_lt_of_le l1 tt1.size
            go_wp2_with fail
            (with_reducible refine y2.mono ?_)
            rintro e w2 ⟨rfl, hR2, tt2⟩
            have FIN := Lib.hid (both8_step lt1 lt2 h3 h4 h5 hBA tt1 hC1 (Below.refl _ _) tt2 hR2)
            clear y2 hR2 hC1
            go_wp2_with fail
            go_ret
            exact ⟨rfl, FIN.out⟩
          · have es : bcS a ⟨kd, wh, tk, t, da⟩ = a := by unfold bcS; rw [if_neg q0, if_neg q1, if_neg q2, if_neg q3, if_neg q4]
            rw [es]
            have e0 : (kd == 0) = false := by simpa using q0
            have e1 : (kd == 1) = false := by simpa using q1
            have e2 : (kd == 2) = false := by simpa using q2
            have e3 : (kd == 3) = false := by simpa using q3
            have e4 : (kd == 4) = false := by simpa using q4
            rw [hwa] at HBo
            clear q0 q1 q2 q3 q4
            go_enter Try.func11, Try.ntmps11
            go_wp2_with fail
            go_ret
            exact ⟨rfl, HBo.out⟩
end Go.Proofs.Ytcnfidfpgohpoaa.W
