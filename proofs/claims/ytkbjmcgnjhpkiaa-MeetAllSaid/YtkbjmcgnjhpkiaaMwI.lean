/- Layer 16's own code, walked: Meet, Major, and the span that is told. -/
import Derived.Test.YtkbjmcgnjhpkiaaMwH
namespace Go.Proofs.Ytkbjmcgnjhpkiaa.W
open Go.RowKit Go.Sort
set_option linter.unusedVariables false
set_option linter.unusedSimpArgs false
theorem chk_zero {l : List Cd} (h : chkC l = 0) : l.length ≤ 10 ∧ ∀ c ∈ l, c.Ok := by
  unfold chkC at h
  by_cases g : 10 < l.length ∨ ∃ c ∈ l, ¬ c.Ok
  · rw [if_pos g] at h
    cases h
  · rw [not_or] at g
    refine ⟨by omega, fun c hc => ?_⟩
    by_cases ho : c.Ok
    · exact ho
    · exact absurd ⟨c, hc, ho⟩ g.2
theorem SlAt.later {α : Type} {F : Nat → Prop} {k : Nat} {enc : α → List Value} {w w' : World} {v : Value} {l : List α} (h : SlAt F k enc w v l) (hF : ∀ b, F b → b < w.heap.size) (hB : Below w.heap.size w w') : SlAt F k enc w' v l := h.kept fun b hb => hB.block b (hF b hb)
set_option maxRecDepth 100000 in
set_option maxHeartbeats 6400000 in
theorem mmeet_any (l : List Cd) (tl : ∀ c ∈ l, c.Typed) (hc : chkC l = 0) {F : Nat → Prop} {v : Value} (w : World) (hs : SlAt F 3 cdC w v l) (hF : ∀ b, F b → b < w.heap.size) :
    Calls Try.prog 16 #[v] w fun e w' => e = .returned (.tuple #[.agg #[.int .i64 (spLo ((meetF l).map (·.1))), .int .i64 (spHi ((meetF l).map (·.1)))], .int .i64 (allowI l), .bool (meetF l).isSome]) ∧ Below w.heap.size w w' := by
  obtain ⟨h10, ok⟩ := chk_zero hc
  have x0 := heap_alloc_new w (.cells #[.int .i64 0, .int .i64 0] 31)
  have B0 := (Below.refl w.heap.size w).alloc (Nat.le_refl _) (.cells #[.int .i64 0, .int .i64 0] 31)
  have z0 := World.size_alloc w (.cells #[.int .i64 0, .int .i64 0] 31)
  have hs0 := hs.later hF B0
  obtain ⟨vx, vc, rfl⟩ := hs.slice
  have cE := medges_any l (by omega) _ hs0 (fun b hb => by have := hF b hb; rw [z0]; omega)
  have X := Lib.hid (And.intro x0 (And.intro B0 z0))
  clear x0 B0 z0 hs hs0 hc
  go_enter Try.func16, Try.ntmps16
  go_wp2_with fail
  generalize w.alloc (.cells #[.int .i64 0, .int .i64 0] 31) = w0 at *
  (with_reducible refine cE.mono ?_)
  rintro e w1 ⟨u, E, rfl, hE, hsE, B1⟩
  obtain ⟨ux, uc, rfl⟩ := hsE.slice
  obtain ⟨x0, B0, z0⟩ := X.out
  have hsE1 : SlAt (fun b => b < w1.heap.size) 2 egE w1 (.slice ux E.length uc) E := hsE.mono fun b hb => hb.2
  have cc : ∀ (n : Nat), 2 * n < l.length → ∀ W : World, Below w1.heap.size w1 W → _ := fun n hn W hW => mcommon_any l tl ok (by omega) hE (l.length - n) (.inl (by omega)) (by omega) W ((hsE1.later (fun b hb => hb) hW).mono fun b hb => Nat.lt_of_lt_of_le hb hW.size)
  have x1 := (B1.block _ (by omega)).trans x0
  have BW1 := B0.trans (B1.mono (by omega))
  have zz1 : w.heap.size < w1.heap.size := by have := B1.size; omega
  clear cE X x0 B0 z0 hE hsE hsE1 B1
  go_wp2_with fail
  go_loopw [6] (fun i wr => ∃ (n : Nat) (z : Int), z = (n : Int) ∧ n ≤ l.length ∧ i = .int .i64 z ∧ (∀ k, k < n → meetAt l k = none) ∧ wr.heap[w.heap.size]? = some (.cells #[.int .i64 0, .int .i64 0] 31 (0, 0)) ∧ Below w.heap.size w wr ∧ Below w1.heap.size w1 wr) (fun i _ => l.length - (intOf i).toNat)
  case atStart => exact ⟨0, 0, rfl, Nat.zero_le _, rfl, fun k hk => by omega, x1, BW1, Below.refl _ _⟩
  case round =>
    obtain ⟨n, z, hz, hnl, rfl, hno, xr, BWr, B1r⟩ := hrel
    have hm : wrap64 (2 * z) = 2 * z := by unfold wrap64; omega
    have NO := Lib.hid hno
    clear x1 BW1 hno
    by_cases hlt : 2 * n < l.length
    · have d0 : decide (2 * z < (l.length : Int)) = true := decide_eq_true (by omega)
      have i0 : 2 * z < (l.length : Int) := by omega
      have hsub : wrap64 ((l.length : Int) - z) = (l.length : Int) - z := by unfold wrap64; omega
      have hadd : wrap64 (z + 1) = z + 1 := by unfold wrap64; omega
      have hneed : ((l.length - n : Nat) : Int) = (l.length : Int) - z := by omega
      have c1 := cc n hlt wr B1r
      rw [hneed] at c1
      have hmc := meet_com l n hlt
      have HMC := Lib.hid hmc
      have zr := B1r.size
      have HN := Lib.hid (And.intro hz hlt)
      have XR := Lib.hid (And.intro xr (And.intro BWr B1r))
      clear hmc hneed cc hz hlt xr BWr B1r
      cases hcf : comF l (l.length - n) with
      | none =>
        unfold comS comM at c1
        rw [hcf] at c1
        have HCF := Lib.hid hcf
        simp only [Option.map_none, spLo, spHi, Option.isSome_none] at c1
        clear hcf
        go_wp2_with fail
        (with_reducible refine c1.mono ?_)
        rintro e w2 ⟨rfl, B2⟩
        obtain ⟨xr, BWr, B1r⟩ := XR.out
        have x2 := (B2.block _ (by omega)).trans xr
        have B12 := (B1r.trans (B2.mono zr))
        have BW2 := BWr.trans (B2.mono BWr.size)
        have x3 := (Below.heap_alloc w2 (.cells #[.int .i64 0, .int .i64 0] 31) _ (by have := B2.size; omega)).trans x2
        have B13 := B12.alloc B12.size (.cells #[.int .i64 0, .int .i64 0] 31)
        have BW3 := BW2.alloc BW2.size (.cells #[.int .i64 0, .int .i64 0] 31)
        have X3 := Lib.hid (And.intro x3 (And.intro BW3 B13))
        clear xr BWr B1r x2 B12 BW2 x3 B13 BW3 B2 c1
        go_wp2_with fail
        go_roundw
        case rel =>
          obtain ⟨hz, hlt⟩ := HN.out
          refine ⟨n + 1, z + 1, by omega, by omega, by rw [hadd], fun k hk => ?_, X3.out⟩
          by_cases e : k = n
          · rw [e, HMC.out, HCF.out]
          · exact NO.out k (by omega)
        case measure => have := HN.out; simp [intOf]; omega
      | some r =>
        unfold comS comM at c1
        rw [hcf] at c1
        have HCF := Lib.hid hcf
        obtain ⟨⟨a, b⟩, o⟩ := r
        simp only [Option.map_some, spLo, spHi, Option.isSome_some] at c1
        obtain ⟨m, k1⟩ : ∃ m : Int, (o : Int) = m := ⟨_, rfl⟩
        rw [k1] at c1
        have K1 := Lib.hid k1
        have x4 : ∀ W : World, (W.alloc (.cells #[.int .i64 a, .int .i64 b] 31)).heap[W.heap.size]? = some (.cells #[.int .i64 a, .int .i64 b] 31 (0, 0)) := fun W => heap_alloc_new W _
        clear hcf k1
        by_cases hle : m ≤ z
        · have d1 : decide (m ≤ z) = true := decide_eq_true hle
          have HLE := Lib.hid hle
          go_wp2_with fail
          (with_reducible refine c1.mono ?_)
          rintro e w2 ⟨rfl, B2⟩
          obtain ⟨xr, BWr, B1r⟩ := XR.out
          have x2 := (B2.block _ (by omega)).trans xr
          have BW2 := BWr.trans (B2.mono BWr.size)
          have x3 := (Below.heap_alloc w2 (.cells #[.int .i64 a, .int .i64 b] 31) _ (by have := B2.size; omega)).trans x2
          have BW3 := BW2.alloc BW2.size (.cells #[.int .i64 a, .int .i64 b] 31)
          obtain ⟨s0, s1, _⟩ := two_at16 (x4 w2)
          obtain ⟨c0, c1', fr⟩ := two_at16 x3
          have X3 := Lib.hid (And.intro x3 BW3)
          clear xr BWr B1r x2 BW2 x3 BW3 B2 c1
          go_wp2_with fail
          obtain ⟨x3, BW3⟩ := X3.out
          have C1 := block_set 1 (.int .i64 b) (block_set 0 (.int .i64 a) x3)
          have BF := (BW3.setCell (p := ⟨w.heap.size, 0, none⟩) (Nat.le_refl _) (.int .i64 a)).setCell (p := ⟨w.heap.size, 1, none⟩) (Nat.le_refl _) (.int .i64 b)
          clear c0 c1' fr s0 s1
          obtain ⟨c0, c1, _⟩ := two_at16 C1
          obtain ⟨hz, hlt⟩ := HN.out
          have hma : meetAt l n = some (a, b) := by
            rw [HMC.out, HCF.out]
            dsimp only
            rw [if_pos (by have := K1.out; have := HLE.out; omega)]
          have hmf := meet_stop NO.out hma hlt
          unfold allowI
          rw [hmf]
          simp only [Option.map_some, spLo, spHi, Option.isSome_some]
          rw [← hz]
          refine bodyPost_ret (v := .tuple #[.agg #[.int .i64 a, .int .i64 b], .int .i64 z, .bool true]) ?_ rfl ⟨rfl, BF⟩
          simp [results, Try.results16, go_sem, c0, c1]
        · have d1 : decide (m ≤ z) = false := decide_eq_false hle
          have HLE := Lib.hid hle
          go_wp2_with fail
          (with_reducible refine c1.mono ?_)
          rintro e w2 ⟨rfl, B2⟩
          obtain ⟨xr, BWr, B1r⟩ := XR.out
          have x2 := (B2.block _ (by omega)).trans xr
          have B12 := (B1r.trans (B2.mono zr))
          have BW2 := BWr.trans (B2.mono BWr.size)
          have x3 := (Below.heap_alloc w2 (.cells #[.int .i64 a, .int .i64 b] 31) _ (by have := B2.size; omega)).trans x2
          have B13 := B12.alloc B12.size (.cells #[.int .i64 a, .int .i64 b] 31)
          have BW3 := BW2.alloc BW2.size (.cells #[.int .i64 a, .int .i64 b] 31)
          have X3 := Lib.hid (And.intro x3 (And.intro BW3 B13))
          clear xr BWr B1r x2 B12 BW2 x3 B13 BW3 B2 c1 x4
          go_wp2_with fail
          go_roundw
          case rel =>
            obtain ⟨hz, hlt⟩ := HN.out
            refine ⟨n + 1, z + 1, by omega, by omega, by rw [hadd], fun k hk => ?_, X3.out⟩
            by_cases e : k = n
            · rw [e, HMC.out, HCF.out]
              dsimp only
              rw [if_neg (by have := K1.out; have := HLE.out; omega)]
            · exact NO.out k (by omega)
          case measure => have := HN.out; simp [intOf]; omega
    · have d0 : decide (2 * z < (l.length : Int)) = false := decide_eq_false (by omega)
      have i0 : ¬ 2 * z < (l.length : Int) := by omega
      have hmf := meet_over NO.out hlt
      have HMF := Lib.hid hmf
      obtain ⟨c0, c1, fr⟩ := two_at16 xr
      have XR := Lib.hid (And.intro xr BWr)
      clear xr BWr B1r cc hmf hlt hz
      go_wp2_with fail
      obtain ⟨xr, BWr⟩ := XR.out
      have C1 := block_set 1 (.int .i64 0) (block_set 0 (.int .i64 0) xr)
      have BF := (BWr.setCell (p := ⟨w.heap.size, 0, none⟩) (Nat.le_refl _) (.int .i64 0)).setCell (p := ⟨w.heap.size, 1, none⟩) (Nat.le_refl _) (.int .i64 0)
      clear c0 c1 fr
      obtain ⟨c0, c1, _⟩ := two_at16 C1
      unfold allowI
      rw [HMF.out]
      simp only [Option.map_none, spLo, spHi, Option.isSome_none]
      refine bodyPost_ret (v := .tuple #[.agg #[.int .i64 0, .int .i64 0], .int .i64 0, .bool false]) ?_ rfl ⟨rfl, BF⟩
      simp [results, Try.results16, go_sem, c0, c1]
set_option maxRecDepth 100000 in
set_option maxHeartbeats 6400000 in
theorem mmaj_any (l : List Cd) (tl : ∀ c ∈ l, c.Typed) (hc : chkC l = 0) {F : Nat → Prop} {v : Value} (w : World) (hs : SlAt F 3 cdC w v l) (hF : ∀ b, F b → b < w.heap.size) :
    Calls Try.prog 14 #[v] w fun e w' => e = .returned (.tuple #[.agg #[.int .i64 (spLo (majF l)), .int .i64 (spHi (majF l))], .bool (majF l).isSome]) ∧ Below w.heap.size w w' := by
  obtain ⟨h10, ok⟩ := chk_zero hc
  have x0 := heap_alloc_new w (.cells #[.int .i64 0, .int .i64 0] 31)
  have B0 := (Below.refl w.heap.size w).alloc (Nat.le_refl _) (.cells #[.int .i64 0, .int .i64 0] 31)
  have z0 := World.size_alloc w (.cells #[.int .i64 0, .int .i64 0] 31)
  have hs0 := hs.later hF B0
  obtain ⟨vx, vc, rfl⟩ := hs.slice
  have cE := medges_any l (by omega) _ hs0 (fun b hb => by have := hF b hb; rw [z0]; omega)
  have hmc := maj_com l
  have hmi : (comF l (needM l.length)).isSome = (majF l).isSome := by
    rw [← hmc]
    unfold comS
    cases comF l (needM l.length) <;> rfl
  have hneed : 0 < needM l.length ∨ l = [] := by
    by_cases h : l.length = 0
    · exact .inr (List.eq_nil_of_length_eq_zero h)
    · exact .inl (need_pos (by omega))
  have hnn : (needM l.length : Int) = (l.length : Int) - ((l.length - 1) / 2 : Nat) ∧ needM l.length ≤ 1000 := by unfold needM; omega
  obtain ⟨o, ho⟩ : ∃ o : Int, (((l.length - 1) / 2 : Nat) : Int) = o := ⟨_, rfl⟩
  rw [ho] at hnn
  have hq : ((l.length : Int) - 1).tdiv 2 = o := by
    by_cases h : l.length = 0
    · rw [h] at ho ⊢
      rw [← ho]
      decide
    · rw [Int.tdiv_eq_ediv_of_nonneg (by omega)]
      omega
  have hsub : wrap64 ((l.length : Int) - o) = (l.length : Int) - o := by unfold wrap64; omega
  have hwo : wrap64 o = o := by unfold wrap64; omega
  have HI := Lib.hid (And.intro hneed hnn)
  obtain ⟨a, ha⟩ : ∃ a, spLo (majF l) = a := ⟨_, rfl⟩
  obtain ⟨b, hb⟩ : ∃ b, spHi (majF l) = b := ⟨_, rfl⟩
  obtain ⟨is, his⟩ : ∃ is, (majF l).isSome = is := ⟨_, rfl⟩
  rw [ha, hb, his]
  have HV := Lib.hid (And.intro ha (And.intro hb his))
  clear ha hb his
  have HM := Lib.hid (And.intro hmc hmi)
  have X := Lib.hid (And.intro x0 (And.intro B0 z0))
  clear x0 B0 z0 hs hs0 hc hneed hnn hmc hmi ho
  go_enter Try.func14, Try.ntmps14
  go_wp2_with fail
  generalize w.alloc (.cells #[.int .i64 0, .int .i64 0] 31) = w0 at *
  (with_reducible refine cE.mono ?_)
  rintro e w1 ⟨u, E, rfl, hE, hsE, B1⟩
  obtain ⟨ux, uc, rfl⟩ := hsE.slice
  obtain ⟨x0, B0, z0⟩ := X.out
  obtain ⟨hneed, hnn, h1000⟩ := HI.out
  have c1 := mcommon_any l tl ok (by omega) hE (needM l.length) hneed h1000 w1 (hsE.mono fun b hb => hb.2)
  rw [HM.out.1, HM.out.2, hnn, HV.out.1, HV.out.2.1, HV.out.2.2] at c1
  have x1 := (B1.block _ (by omega)).trans x0
  have BW1 := B0.trans (B1.mono (by omega))
  have zz1 : w.heap.size < w1.heap.size := by have := B1.size; omega
  have X1 := Lib.hid (And.intro x1 (And.intro BW1 zz1))
  clear cE X x0 B0 z0 hE hsE B1 HI HM hneed hnn h1000 x1 BW1 zz1
  generalize comM l (needM l.length) = m at *
  go_wp2_with fail
  (with_reducible refine c1.mono ?_)
  rintro e w2 ⟨rfl, B2⟩
  obtain ⟨x1, BW1, zz1⟩ := X1.out
  have x2 := (B2.block _ zz1).trans x1
  have BW2 := BW1.trans (B2.mono (by omega))
  have x3 := (Below.heap_alloc w2 (.cells #[.int .i64 a, .int .i64 b] 31) _ (by have := B2.size; omega)).trans x2
  have BW3 := BW2.alloc BW2.size (.cells #[.int .i64 a, .int .i64 b] 31)
  have x4 := heap_alloc_new w2 (.cells #[.int .i64 a, .int .i64 b] 31)
  obtain ⟨s0, s1, _⟩ := two_at16 x4
  obtain ⟨c0, c1', fr⟩ := two_at16 x3
  have X3 := Lib.hid (And.intro x3 BW3)
  clear x1 BW1 x2 BW2 x3 x4 BW3 B2 c1 X1
  go_wp2_with fail
  obtain ⟨x3, BW3⟩ := X3.out
  have C1 := block_set 1 (.int .i64 b) (block_set 0 (.int .i64 a) x3)
  have BF := (BW3.setCell (p := ⟨w.heap.size, 0, none⟩) (Nat.le_refl _) (.int .i64 a)).setCell (p := ⟨w.heap.size, 1, none⟩) (Nat.le_refl _) (.int .i64 b)
  clear c0 c1' fr s0 s1
  obtain ⟨c0, c1, _⟩ := two_at16 C1
  refine bodyPost_ret (v := .tuple #[.agg #[.int .i64 a, .int .i64 b], .bool is]) ?_ rfl ⟨rfl, BF⟩
  simp [results, Try.results14, go_sem, c0, c1]
theorem span_meet (l : List Cd) : spanF l = match meetF l with
  | some r => some r.1
  | none => majF l := by
  unfold spanF
  cases meetF l with
  | none => rfl
  | some r => rfl
set_option maxRecDepth 100000 in
set_option maxHeartbeats 6400000 in
theorem mtold_any (l : List Cd) (tl : ∀ c ∈ l, c.Typed) (hc : chkC l = 0) {F : Nat → Prop} {v : Value} (w : World) (hs : SlAt F 3 cdC w v l) (hF : ∀ b, F b → b < w.heap.size) :
    Calls Try.prog 23 #[v] w fun e w' => e = .returned (.tuple #[.agg #[.int .i64 (spLo (spanF l)), .int .i64 (spHi (spanF l))], .bool (spanF l).isSome]) ∧ Below w.heap.size w w' := by
  have x0 := heap_alloc_new w (.cells #[.int .i64 0, .int .i64 0] 31)
  have B0 := (Below.refl w.heap.size w).alloc (Nat.le_refl _) (.cells #[.int .i64 0, .int .i64 0] 31)
  have z0 := World.size_alloc w (.cells #[.int .i64 0, .int .i64 0] 31)
  have hs0 := hs.later hF B0
  have HS := Lib.hid hs
  obtain ⟨vx, vc, rfl⟩ := hs.slice
  have cM := mmeet_any l tl hc _ hs0 (fun b hb => by have := hF b hb; rw [z0]; omega)
  have cJ := fun W hW => mmaj_any l tl hc W (HS.out.later hF hW) (fun b hb => Nat.lt_of_lt_of_le (hF b hb) hW.size)
  have hsp := span_meet l
  have X := Lib.hid (And.intro x0 (And.intro B0 z0))
  clear x0 B0 z0 hs hs0
  cases hm : meetF l with
  | none =>
    unfold allowI at cM
    rw [hm] at cM hsp
    simp only [Option.map_none, spLo, spHi, Option.isSome_none] at cM
    rw [hsp]
    clear hsp hm
    generalize spLo (majF l) = a at *
    generalize spHi (majF l) = b at *
    generalize (majF l).isSome = is at *
    go_enter Try.func23, Try.ntmps23
    go_wp2_with fail
    generalize w.alloc (.cells #[.int .i64 0, .int .i64 0] 31) = w0 at *
    (with_reducible refine cM.mono ?_)
    rintro e w1 ⟨rfl, B1⟩
    obtain ⟨x0, B0, z0⟩ := X.out
    have x1 := (Below.heap_alloc w1 (.cells #[.int .i64 0, .int .i64 0] 31) _ (by have := B1.size; omega)).trans ((B1.block _ (by omega)).trans x0)
    have BW1 := (B0.trans (B1.mono (by omega))).alloc (by have := B1.size; omega) (.cells #[.int .i64 0, .int .i64 0] 31)
    have cJ1 := cJ _ BW1
    rw [World.size_alloc] at cJ1
    have X1 := Lib.hid (And.intro x1 BW1)
    clear cM cJ X x0 B0 z0 B1 x1 BW1
    go_wp2_with fail
    (with_reducible refine cJ1.mono ?_)
    rintro e w2 ⟨rfl, B2⟩
    obtain ⟨x1, BW1⟩ := X1.out
    rw [← World.size_alloc w1 (.cells #[.int .i64 0, .int .i64 0] 31)] at B2
    have x2 := (B2.block _ (Array.getElem?_eq_some_iff.1 x1).1).trans x1
    have BW2 := BW1.trans (B2.mono BW1.size)
    obtain ⟨c0, c1', fr⟩ := two_at16 x2
    have X3 := Lib.hid (And.intro x2 BW2)
    clear x1 BW1 x2 BW2 B2 cJ1 X1
    go_wp2_with fail
    obtain ⟨x3, BW3⟩ := X3.out
    have C1 := block_set 1 (.int .i64 b) (block_set 0 (.int .i64 a) x3)
    have BF := (BW3.setCell (p := ⟨w.heap.size, 0, none⟩) (Nat.le_refl _) (.int .i64 a)).setCell (p := ⟨w.heap.size, 1, none⟩) (Nat.le_refl _) (.int .i64 b)
    clear c0 c1' fr
    obtain ⟨c0, c1, _⟩ := two_at16 C1
    refine bodyPost_ret (v := .tuple #[.agg #[.int .i64 a, .int .i64 b], .bool is]) ?_ rfl ⟨rfl, BF⟩
    simp [results, Try.results23, go_sem, c0, c1]
  | some r =>
    obtain ⟨⟨a, b⟩, k⟩ := r
    unfold allowI at cM
    rw [hm] at cM hsp
    rw [hsp]
    simp only [Option.map_some, spLo, spHi, Option.isSome_some] at cM ⊢
    clear hsp hm
    go_enter Try.func23, Try.ntmps23
    go_wp2_with fail
    generalize w.alloc (.cells #[.int .i64 0, .int .i64 0] 31) = w0 at *
    (with_reducible refine cM.mono ?_)
    rintro e w1 ⟨rfl, B1⟩
    obtain ⟨x0, B0, z0⟩ := X.out
    have x1 := (Below.heap_alloc w1 (.cells #[.int .i64 a, .int .i64 b] 31) _ (by have := B1.size; omega)).trans ((B1.block _ (by omega)).trans x0)
    have BW1 := (B0.trans (B1.mono (by omega))).alloc (by have := B1.size; omega) (.cells #[.int .i64 a, .int .i64 b] 31)
    have x4 := heap_alloc_new w1 (.cells #[.int .i64 a, .int .i64 b] 31)
    obtain ⟨s0, s1, _⟩ := two_at16 x4
    obtain ⟨c0, c1', fr⟩ := two_at16 x1
    have X3 := Lib.hid (And.intro x1 BW1)
    clear cM cJ X x0 B0 z0 B1 x1 BW1 x4
    go_wp2_with fail
    obtain ⟨x3, BW3⟩ := X3.out
    have C1 := block_set 1 (.int .i64 b) (block_set 0 (.int .i64 a) x3)
    have BF := (BW3.setCell (p := ⟨w.heap.size, 0, none⟩) (Nat.le_refl _) (.int .i64 a)).setCell (p := ⟨w.heap.size, 1, none⟩) (Nat.le_refl _) (.int .i64 b)
    clear c0 c1' fr s0 s1
    obtain ⟨c0, c1, _⟩ := two_at16 C1
    refine bodyPost_ret (v := .tuple #[.agg #[.int .i64 a, .int .i64 b], .bool true]) ?_ rfl ⟨rfl, BF⟩
    simp [results, Try.results23, go_sem, c0, c1]
end Go.Proofs.Ytkbjmcgnjhpkiaa.W
