/- Layer 18's own code, walked: which one leads. -/
import Derived.Test.YtekdablolacgfaaCqD
namespace Go.Proofs.Ytekdablolacgfaa.W
open Go.RowKit Go.Sort
set_option linter.unusedVariables false
set_option linter.unusedSimpArgs false
attribute [local go_sem] Oper.semAt_some
theorem any_of18 {L : List Int} {p : Int → Bool} {q : Nat} (h : q < L.length) (hp : p (L.getD q 0) = true) : L.any p = true := by
  rw [List.any_eq_true]
  exact ⟨_, getD_in h, hp⟩
theorem any_none18 {L : List Int} {p : Int → Bool} (h : ∀ j, j < L.length → p (L.getD j 0) = false) : L.any p = false := by
  rw [Bool.eq_false_iff, Ne, List.any_eq_true]
  rintro ⟨x, hx, hp⟩
  obtain ⟨j, hj, rfl⟩ := List.getElem_of_mem hx
  have := h j hj
  rw [show L.getD j 0 = L[j] by simp [List.getD, hj], hp] at this
  cases this
set_option maxRecDepth 100000 in
set_option maxHeartbeats 6400000 in
theorem cidxf_any (L : List Int) (hL : L.length ≤ 60) (k : Nat) (lb : Array Value) (ek : ∀ args w, (callFunc k args).run Try.prog w = .ok (.enter k args) w) (p : Int → Bool) {F : Nat → Prop} {v : Value} (w : World) (hs : SlAt F 1 (oneE .i64) w v L) (hF : ∀ b, F b → b < w.heap.size)
    (hk : ∀ W : World, Below w.heap.size w W → ∀ x : Int, Calls Try.prog k (#[.int .i64 x] ++ lb) W fun e W' => e = .returned (.bool (p x)) ∧ Below W.heap.size W W') :
    Calls Try.prog 70 #[v, .func (.func k) #[] lb] w fun e w' => ∃ r : Int, e = .returned (.int .i64 r) ∧ decide (0 ≤ r) = L.any p ∧ Below w.heap.size w w' := by
  have HS := Lib.hid hs
  have HF := Lib.hid hF
  have HK := Lib.hid hk
  obtain ⟨xk, ck, rfl⟩ := hs.slice
  have hR := Below.refl w.heap.size w
  clear hs hF hk
  go_enter Try.func70, Try.ntmps70
  go_wp2_with fail
  go_loopw [8] (fun i wr => ∃ q : Nat, q ≤ L.length ∧ i = .int .i64 (q : Int) ∧ (∀ j, j < q → p (L.getD j 0) = false) ∧ Below w.heap.size w wr) (fun i _ => L.length - (intOf i).toNat)
  case atStart => exact ⟨0, Nat.zero_le _, rfl, fun j hj => by omega, hR⟩
  case round =>
    obtain ⟨q, hq, rfl, hno, hB⟩ := hrel
    clear hR
    have HO := Lib.hid hno
    clear hno
    by_cases hlt : q < L.length
    · have i1 : (q : Int) < L.length := by omega
      have i0 : (0 : Int) ≤ (q : Int) := by omega
      obtain ⟨b, off, rfl, x0⟩ := num_at18 HS.out HF.out hB (q := q) hlt
      have cK := HK.out wr hB (L.getD q 0)
      have ha := any_of18 (p := p) hlt
      obtain ⟨y, hy⟩ : ∃ y, L.getD q 0 = y := ⟨_, rfl⟩
      rw [hy] at x0 cK ha
      have HY := Lib.hid (And.intro hy ha)
      have BB := Lib.hid hB
      clear hy ha hB
      cases hp : p y with
      | true =>
        rw [hp] at cK
        have HP := Lib.hid hp
        clear hp
        go_wp2_with fail
        (with_reducible refine cK.mono ?_)
        rintro e w2 ⟨rfl, B2⟩
        have BZ := Lib.hid (BB.out.trans (B2.mono BB.out.size))
        clear B2 cK
        go_wp2_with fail
        go_ret
        exact ⟨_, rfl, by rw [HY.out.2 HP.out]; exact decide_eq_true (by omega), BZ.out⟩
      | false =>
        rw [hp] at cK
        have HP := Lib.hid hp
        clear hp
        go_wp2_with fail
        (with_reducible refine cK.mono ?_)
        rintro e w2 ⟨rfl, B2⟩
        have BZ := Lib.hid (BB.out.trans (B2.mono BB.out.size))
        clear B2 cK
        go_wp2_with fail
        go_roundw
        case rel =>
          refine ⟨q + 1, by omega, by go_num, fun j hj => ?_, BZ.out⟩
          by_cases e : j = q
          · rw [e, HY.out.1]
            exact HP.out
          · exact HO.out j (by omega)
        case measure => simp [intOf]; omega
    · have eq : q = L.length := by omega
      subst eq
      have i3 : ¬ (L.length : Int) < (L.length : Int) := by omega
      have BB := Lib.hid hB
      clear hB
      go_wp2_with fail
      go_ret
      exact ⟨_, rfl, by rw [any_none18 HO.out]; rfl, BB.out⟩
set_option maxRecDepth 100000 in
set_option maxHeartbeats 6400000 in
theorem cidx_any (L : List Int) (hL : L.length ≤ 60) (o : Int) {F : Nat → Prop} {v : Value} (w : World) (hs : SlAt F 1 (oneE .i64) w v L) (hF : ∀ b, F b → b < w.heap.size) :
    Calls Try.prog 59 #[v, .int .i64 o] w fun e w' => ∃ r : Int, e = .returned (.int .i64 r) ∧ decide (0 ≤ r) = L.any (fun k => decide (k = o)) ∧ w = w' := by
  have HS := Lib.hid hs
  have HF := Lib.hid hF
  obtain ⟨xk, ck, rfl⟩ := hs.slice
  clear hs hF
  go_enter Try.func59, Try.ntmps59
  go_wp2_with fail
  go_loopw [8] (fun i wr => ∃ q : Nat, q ≤ L.length ∧ i = .int .i64 (q : Int) ∧ (∀ j, j < q → decide (L.getD j 0 = o) = false) ∧ w = wr) (fun i _ => L.length - (intOf i).toNat)
  case atStart => exact ⟨0, Nat.zero_le _, rfl, fun j hj => by omega, rfl⟩
  case round =>
    obtain ⟨q, hq, rfl, hno, rfl⟩ := hrel
    have HO := Lib.hid hno
    clear hno
    by_cases hlt : q < L.length
    · have i1 : (q : Int) < L.length := by omega
      have i0 : (0 : Int) ≤ (q : Int) := by omega
      obtain ⟨b, off, rfl, x0⟩ := num_at18 HS.out HF.out (Below.refl _ _) (q := q) hlt
      have ha := any_of18 (p := fun k => decide (k = o)) hlt
      obtain ⟨y, hy⟩ : ∃ y, L.getD q 0 = y := ⟨_, rfl⟩
      rw [hy] at x0 ha
      have HY := Lib.hid (And.intro hy ha)
      clear hy ha
      by_cases hp : y = o
      · have d1 : (o == y) = true := by rw [hp]; exact beq_self_eq_true o
        have HP := Lib.hid hp
        clear hp
        go_wp2_with fail
        go_ret
        exact ⟨_, rfl, by rw [HY.out.2 (decide_eq_true HP.out)]; exact decide_eq_true (by omega), rfl⟩
      · have d1 : (o == y) = false := beq_eq_false_iff_ne.2 (fun e => hp e.symm)
        have HP := Lib.hid hp
        clear hp
        go_wp2_with fail
        go_roundw
        case rel =>
          refine ⟨q + 1, by omega, by go_num, fun j hj => ?_, trivial⟩
          by_cases e : j = q
          · rw [e, HY.out.1]
            exact decide_eq_false HP.out
          · exact HO.out j (by omega)
        case measure => simp [intOf]; omega
    · have eq : q = L.length := by omega
      subst eq
      have i3 : ¬ (L.length : Int) < (L.length : Int) := by omega
      go_wp2_with fail
      go_ret
      exact ⟨_, rfl, by rw [any_none18 HO.out]; rfl, rfl⟩
set_option maxRecDepth 100000 in
set_option maxHeartbeats 3200000 in
theorem ccon_any (L : List Int) (hL : L.length ≤ 60) (o : Int) {F : Nat → Prop} {v : Value} (w : World) (hs : SlAt F 1 (oneE .i64) w v L) (hF : ∀ b, F b → b < w.heap.size) :
    Calls Try.prog 40 #[v, .int .i64 o] w fun e w' => e = .returned (.bool (L.any (fun k => decide (k = o)))) ∧ w = w' := by
  have cI := cidx_any L hL o w hs hF
  obtain ⟨xk, ck, rfl⟩ := hs.slice
  generalize L.any (fun k => decide (k = o)) = bb at *
  clear hs
  go_enter Try.func40, Try.ntmps40
  go_wp2_with fail
  (with_reducible refine cI.mono ?_)
  rintro e w2 ⟨r, rfl, hr, rfl⟩
  clear cI
  go_wp2_with fail
  go_ret
  exact ⟨by rw [← hr]; rfl, rfl⟩
set_option maxRecDepth 100000 in
set_option maxHeartbeats 3200000 in
theorem cconf_any (L : List Int) (hL : L.length ≤ 60) (k : Nat) (lb : Array Value) (ek : ∀ args w, (callFunc k args).run Try.prog w = .ok (.enter k args) w) (p : Int → Bool) {F : Nat → Prop} {v : Value} (w : World) (hs : SlAt F 1 (oneE .i64) w v L) (hF : ∀ b, F b → b < w.heap.size)
    (hk : ∀ W : World, Below w.heap.size w W → ∀ x : Int, Calls Try.prog k (#[.int .i64 x] ++ lb) W fun e W' => e = .returned (.bool (p x)) ∧ Below W.heap.size W W') :
    Calls Try.prog 57 #[v, .func (.func k) #[] lb] w fun e w' => e = .returned (.bool (L.any p)) ∧ Below w.heap.size w w' := by
  have cI := cidxf_any L hL k lb ek p w hs hF hk
  obtain ⟨xk, ck, rfl⟩ := hs.slice
  generalize L.any p = bb at *
  clear hs hk
  go_enter Try.func57, Try.ntmps57
  go_wp2_with fail
  (with_reducible refine cI.mono ?_)
  rintro e w2 ⟨r, rfl, hr, B2⟩
  have BZ := Lib.hid B2
  clear cI B2
  go_wp2_with fail
  go_ret
  exact ⟨by rw [← hr]; rfl, BZ.out⟩
set_option maxRecDepth 100000 in
set_option maxHeartbeats 3200000 in
theorem cplc1_any (x m : Int) (b : Nat) (w : World) (h : w.heap[b]? = some (.cells #[.int .i64 m] 3 (0, 0))) :
    Calls Try.prog 58 #[.int .i64 x, .pointer (some ⟨b, 0, none⟩)] w fun e w' => e = .returned (.bool (decide (x < 0 ∨ m ≤ x))) ∧ Below w.heap.size w w' := by
  obtain ⟨c0, _⟩ := one_at18 h
  have hR := Lib.hid (Below.refl w.heap.size w)
  clear h
  by_cases h1 : x < 0
  · have d1 : decide (x < 0) = true := decide_eq_true h1
    have d2 : decide (x < 0 ∨ m ≤ x) = true := decide_eq_true (.inl h1)
    rw [d2]
    clear d2
    go_enter Try.func58, Try.ntmps58
    go_wp2_with fail
    go_ret
    exact ⟨rfl, hR.out⟩
  · have d1 : decide (x < 0) = false := decide_eq_false h1
    by_cases h2 : m ≤ x
    · have d3 : decide (m ≤ x) = true := decide_eq_true h2
      have d2 : decide (x < 0 ∨ m ≤ x) = true := decide_eq_true (.inr h2)
      rw [d2]
      clear d2
      go_enter Try.func58, Try.ntmps58
      go_wp2_with fail
      go_ret
      exact ⟨rfl, hR.out⟩
    · have d3 : decide (m ≤ x) = false := decide_eq_false h2
      have d2 : decide (x < 0 ∨ m ≤ x) = false := decide_eq_false fun h => h.elim h1 h2
      rw [d2]
      clear d2
      go_enter Try.func58, Try.ntmps58
      go_wp2_with fail
      go_ret
      exact ⟨rfl, hR.out⟩
theorem enters_plc1 (args : Array Value) (w : World) : (callFunc 58 args).run Try.prog w = .ok (.enter 58 args) w := by kernel_rfl
set_option maxRecDepth 100000 in
set_option maxHeartbeats 3200000 in
theorem cplc_any (L : List Int) (hL : L.length ≤ 60) (m : Nat) {F : Nat → Prop} {v : Value} (w : World) (hs : SlAt F 1 (oneE .i64) w v L) (hF : ∀ b, F b → b < w.heap.size) :
    Calls Try.prog 39 #[v, .int .i64 (m : Int)] w fun e w' => e = .returned (.bool (!L.any fun k => decide (k < 0 ∨ (m : Int) ≤ k))) ∧ Below w.heap.size w w' := by
  have x0 := heap_alloc_new w (.cells #[.int .i64 (m : Int)] 3)
  have B0 := (Below.refl w.heap.size w).alloc (Nat.le_refl _) (.cells #[.int .i64 (m : Int)] 3)
  have z0 := World.size_alloc w (.cells #[.int .i64 (m : Int)] 3)
  have cF := cconf_any L hL 58 #[.pointer (some ⟨w.heap.size, 0, none⟩)] enters_plc1 (fun k => decide (k < 0 ∨ (m : Int) ≤ k)) _ (hs.kept fun b hb => B0.block b (hF b hb)) (fun b hb => Nat.lt_of_lt_of_le (hF b hb) B0.size) (fun W hW x => cplc1_any x m w.heap.size W ((hW.block _ (by omega)).trans x0))
  obtain ⟨xk, ck, rfl⟩ := hs.slice
  generalize (L.any fun k => decide (k < 0 ∨ (m : Int) ≤ k)) = bb at *
  have X := Lib.hid (And.intro B0 z0)
  clear hs x0 B0 z0
  go_enter Try.func39, Try.ntmps39
  go_wp2_with fail
  generalize w.alloc (.cells #[.int .i64 (m : Int)] 3) = w0 at *
  (with_reducible refine cF.mono ?_)
  rintro e w1 ⟨rfl, B1⟩
  have BF := Lib.hid (X.out.1.trans (B1.mono (by have := X.out.2; omega)))
  clear B1 cF X
  go_wp2_with fail
  go_ret
  exact ⟨rfl, BF.out⟩
set_option maxRecDepth 100000 in
set_option maxHeartbeats 12800000 in
theorem cchoose_any (l : List Sv) (tl : ∀ s ∈ l, s.Typed) (hl : l.length ≤ 60) (kept : List Int) (hk : kept.length ≤ 60) (tk : ∀ x ∈ kept, -9223372036854775808 ≤ x ∧ x ≤ 9223372036854775807) (old : Int) (o0 : -9223372036854775808 ≤ old ∧ old ≤ 9223372036854775807) {F G : Nat → Prop} {vl vk : Value} (w : World) (sl : SlAt F 11 svC w vl l) (sk : SlAt G 1 (oneE .i64) w vk kept) (hF : ∀ b, F b → b < w.heap.size) (hG : ∀ b, G b → b < w.heap.size) :
    Calls Try.prog 17 #[vl, vk, .int .i64 old] w fun e w' => e = .returned (.int .i64 (leadI l kept old)) ∧ Below w.heap.size w w' := by
  have cA := cplc_any kept hk l.length w sk hG
  obtain ⟨xl, cl, rfl⟩ := sl.slice
  obtain ⟨xk, ck, rfl⟩ := sk.slice
  have SO := Lib.hid (And.intro sl sk)
  have HF := Lib.hid (And.intro hF hG)
  have hR := Below.refl w.heap.size w
  have hv : leadI l kept old = chooseI (fun k => (svAt l k).str) l.length kept old := rfl
  clear sl sk hF hG
  by_cases hn : kept = []
  · have e0 : kept.length = 0 := by rw [hn]; rfl
    have hv' : leadI l kept old = -1 := by rw [hv]; unfold chooseI; rw [if_pos hn]
    rw [hv', e0]
    clear hv hv' hn e0 cA
    go_enter Try.func17, Try.ntmps17
    go_wp2_with fail
    go_ret
    exact ⟨rfl, hR⟩
  · have hpos : 0 < kept.length := List.length_pos_iff.2 hn
    have d0 : ((kept.length : Int) == 0) = false := beq_eq_false_iff_ne.2 (by omega)
    have HV := Lib.hid hv
    have HN := Lib.hid hn
    clear hv hn
    cases hb : kept.any (fun k => decide (k < 0 ∨ (l.length : Int) ≤ k)) with
    | true =>
      rw [hb] at cA
      have hv' : leadI l kept old = -1 := by rw [HV.out]; unfold chooseI; rw [if_neg HN.out, if_pos hb]
      rw [hv']
      clear hv' hb
      go_enter Try.func17, Try.ntmps17
      go_wp2_with fail
      (with_reducible refine cA.mono ?_)
      rintro e w1 ⟨rfl, B1⟩
      have BB := Lib.hid B1
      clear B1 cA
      go_wp2_with fail
      go_ret
      exact ⟨rfl, BB.out⟩
    | false =>
      rw [hb] at cA
      have hall : ∀ k ∈ kept, 0 ≤ k ∧ k < l.length := fun k hk' => by
        have : ¬ (k < 0 ∨ (l.length : Int) ≤ k) := fun h => by
          have h2 : kept.any (fun k => decide (k < 0 ∨ (l.length : Int) ≤ k)) = true := by rw [List.any_eq_true]; exact ⟨k, hk', by simpa using h⟩
          rw [hb] at h2
          cases h2
        omega
      have hhd : kept.headD 0 = kept.getD 0 0 := by
        cases kept with
        | nil => rfl
        | cons a r => rfl
      have hv' : leadI l kept old = if kept.any (fun k => decide (k = old)) = true ∧ (svAt l old.toNat).str ≤ (svAt l (kept.getD 0 0).toNat).str then old else kept.getD 0 0 := by
        rw [HV.out]
        unfold chooseI
        rw [if_neg HN.out, if_neg (by rw [hb]; simp), hhd]
      have hin0 := hall _ (getD_in hpos)
      obtain ⟨k0, hk0⟩ : ∃ k0, kept.getD 0 0 = k0 := ⟨_, rfl⟩
      rw [hk0] at hin0 hv'
      have HA := Lib.hid (And.intro hall hk0)
      have HV' := Lib.hid hv'
      have ip : (0 : Int) < kept.length := by omega
      clear hb hall hhd hv' hk0
      go_enter Try.func17, Try.ntmps17
      go_wp2_with fail
      (with_reducible refine cA.mono ?_)
      rintro e w1 ⟨rfl, B1⟩
      obtain ⟨bk, offk, rfl, z0⟩ := num_at18 SO.out.2 HF.out.2 B1 (q := 0) hpos
      rw [HA.out.2, Nat.add_zero] at z0
      obtain ⟨bl, offl, rfl, b0⟩ := str_at18 SO.out.1 HF.out.1 B1 hin0.1 hin0.2
      have cH : ∀ W : World, Below w.heap.size w W → Calls Try.prog 40 #[.slice (some ⟨bk, offk, none⟩) kept.length ck, .int .i64 old] W fun e w' => e = .returned (.bool (kept.any (fun k => decide (k = old)))) ∧ Below W.heap.size W w' := fun W hW => (ccon_any kept hk old W (SO.out.2.kept fun b hb => hW.block b (HF.out.2 b hb)) (fun b hb => Nat.lt_of_lt_of_le (HF.out.2 b hb) hW.size)).mono fun e w' h => ⟨h.1, h.2 ▸ Below.refl W.heap.size W⟩
      have cC := fun d os => Calls.regrown_of (cH (grow (redrawn w1 d) os) (B1.trans ((below_regrown w1 d os).mono B1.size)))
      clear cH
      have BB := Lib.hid B1
      obtain ⟨ik0, ik1⟩ := hin0
      obtain ⟨s0, hs0⟩ : ∃ s, (svAt l k0.toNat).str = s := ⟨_, rfl⟩
      rw [hs0] at b0
      have e0 := cell_regrown b0
      have HS0 := Lib.hid hs0
      clear cA hR hs0
      go_wp2_with fail
      cases hc : kept.any (fun k => decide (k = old)) with
      | false =>
        rw [hc] at cC
        have hv : leadI l kept old = k0 := by rw [HV'.out, hc]; simp
        have HL := Lib.hid hv
        clear hc hv z0 b0 B1
        refine wp_region_quiet_below (by kernel_rfl) (by kernel_rfl) ?_
        repeat (go_big_quiet_step (first | (with_reducible exact cC _ _) | (exact cC _ _)))
        refine wpQuiet_nil ?_
        intro W6 hw
        have BZ := Lib.hid (BB.out.trans ((again18 hw).mono BB.out.size))
        clear hw cC e0
        go_wp2_with fail
        go_ret
        exact ⟨by rw [HL.out]; rfl, BZ.out⟩
      | true =>
        rw [hc] at cC
        have hio : 0 ≤ old ∧ old < l.length := by
          obtain ⟨k, hk', e⟩ := List.any_eq_true.1 hc
          have e' : k = old := by simpa using e
          rw [← e']
          exact HA.out.1 k hk'
        obtain ⟨bl', offl', hxl', a0⟩ := str_at18 SO.out.1 HF.out.1 B1 hio.1 hio.2
        obtain ⟨rfl, rfl⟩ : bl = bl' ∧ offl = offl' := by simpa using hxl'
        have e1 := cell_regrown a0
        obtain ⟨io0, io1⟩ := hio
        have hv := HV'.out
        rw [hc, HS0.out] at hv
        obtain ⟨so, hso⟩ : ∃ s, (svAt l old.toNat).str = s := ⟨_, rfl⟩
        rw [hso] at hv e1
        clear hc z0 b0 a0 B1 hso hxl'
        by_cases h2 : so ≤ s0
        · have d2 : decide (so ≤ s0) = true := decide_eq_true h2
          rw [if_pos ⟨rfl, h2⟩] at hv
          have HL := Lib.hid hv
          clear hv h2
          refine wp_region_quiet_below (by kernel_rfl) (by kernel_rfl) ?_
          repeat (go_big_quiet_step (first | (with_reducible exact cC _ _) | (exact cC _ _)))
          refine wpQuiet_nil ?_
          intro W6 hw
          have BZ := Lib.hid (BB.out.trans ((again18 hw).mono BB.out.size))
          clear hw cC e0 e1
          go_wp2_with fail
          go_ret
          exact ⟨by rw [HL.out]; rfl, BZ.out⟩
        · have d2 : decide (so ≤ s0) = false := decide_eq_false h2
          rw [if_neg (fun h => h2 h.2)] at hv
          have HL := Lib.hid hv
          clear hv h2
          refine wp_region_quiet_below (by kernel_rfl) (by kernel_rfl) ?_
          repeat (go_big_quiet_step (first | (with_reducible exact cC _ _) | (exact cC _ _)))
          refine wpQuiet_nil ?_
          intro W6 hw
          have BZ := Lib.hid (BB.out.trans ((again18 hw).mono BB.out.size))
          clear hw cC e0 e1
          go_wp2_with fail
          go_ret
          exact ⟨by rw [HL.out]; rfl, BZ.out⟩
end Go.Proofs.Ytekdablolacgfaa.W
