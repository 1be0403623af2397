/- Layer 16's own code, walked: places, Select, Depth. -/
import Derived.Test.YtkbjmcgnjhpkiaaMwI
import Derived.Test.YtkbjmcgnjhpkiaaPlA
namespace Go.Proofs.Ytkbjmcgnjhpkiaa.W
open Go.RowKit Go.Sort
set_option linter.unusedVariables false
set_option linter.unusedSimpArgs false
set_option maxRecDepth 100000 in
set_option maxHeartbeats 3200000 in
theorem mholds_any (a b x : Int) (w : World) : Calls Try.prog 20 #[.agg #[.int .i64 a, .int .i64 b], .int .i64 x] w fun e w' => e = .returned (.bool (decide (a ≤ x) && decide (x ≤ b))) ∧ Below w.heap.size w w' := by
  have hB := Lib.hid ((Below.refl w.heap.size w).alloc (Nat.le_refl _) (.cells #[.int .i64 a, .int .i64 b] 31))
  by_cases g1 : a ≤ x
  · have d1 : decide (a ≤ x) = true := decide_eq_true g1
    by_cases g2 : x ≤ b
    · have d2 : decide (x ≤ b) = true := decide_eq_true g2
      rw [d1, d2]
      go_enter Try.func20, Try.ntmps20
      go_wp2_with fail
      go_ret
      exact ⟨by simp [g1, g2], hB.out⟩
    · have d2 : decide (x ≤ b) = false := decide_eq_false g2
      rw [d1, d2]
      go_enter Try.func20, Try.ntmps20
      go_wp2_with fail
      go_ret
      exact ⟨by simp [g2], hB.out⟩
  · have d1 : decide (a ≤ x) = false := decide_eq_false g1
    rw [d1, Bool.false_and]
    go_enter Try.func20, Try.ntmps20
    go_wp2_with fail
    go_ret
    exact ⟨by simp [g1], hB.out⟩
set_option maxRecDepth 100000 in
set_option maxHeartbeats 3200000 in
theorem msel1_any (c : Cd) (a b : Int) (p : Nat) (w : World) (h : w.heap[p]? = some (.cells #[.int .i64 a, .int .i64 b] 31 (0, 0))) :
    Calls Try.prog 24 #[.agg #[.int .i64 c.lo, .int .i64 c.mid, .int .i64 c.hi], .pointer (some ⟨p, 0, none⟩)] w fun e w' => e = .returned (.bool (midIn (a, b) c)) ∧ Below w.heap.size w w' := by
  have hl := (Array.getElem?_eq_some_iff.1 h).1
  have h1 := (Below.heap_alloc w (.cells #[.int .i64 c.lo, .int .i64 c.mid, .int .i64 c.hi] 41) p hl).trans h
  obtain ⟨s0, s1, _⟩ := two_at16 h1
  have hB := (Below.refl w.heap.size w).alloc (Nat.le_refl _) (.cells #[.int .i64 c.lo, .int .i64 c.mid, .int .i64 c.hi] 41)
  have HB := Lib.hid hB
  have ch := mholds_any a b c.mid
  clear h h1 hB
  go_enter Try.func24, Try.ntmps24
  go_wp2_with fail
  (with_reducible refine (ch _).mono ?_)
  rintro e w2 ⟨rfl, B2⟩
  have B3 := Lib.hid (HB.out.trans (B2.mono HB.out.size))
  clear B2 ch
  go_wp2_with fail
  go_ret
  exact ⟨rfl, B3.out⟩
set_option maxRecDepth 100000 in
set_option maxHeartbeats 3200000 in
theorem msel2_any (c : Cd) (a b : Int) (p : Nat) (w : World) (h : w.heap[p]? = some (.cells #[.int .i64 a, .int .i64 b] 31 (0, 0))) :
    Calls Try.prog 25 #[.agg #[.int .i64 c.lo, .int .i64 c.mid, .int .i64 c.hi], .pointer (some ⟨p, 0, none⟩)] w fun e w' => e = .returned (.bool (cutIn (a, b) c)) ∧ Below w.heap.size w w' := by
  have hl := (Array.getElem?_eq_some_iff.1 h).1
  have h1 := (Below.heap_alloc w (.cells #[.int .i64 c.lo, .int .i64 c.mid, .int .i64 c.hi] 41) p hl).trans h
  obtain ⟨s0, s1, _⟩ := two_at16 h1
  have hB := (Below.refl w.heap.size w).alloc (Nat.le_refl _) (.cells #[.int .i64 c.lo, .int .i64 c.mid, .int .i64 c.hi] 41)
  have HB := Lib.hid hB
  clear h h1 hB
  unfold cutIn
  dsimp only
  by_cases g1 : c.lo ≤ b
  · have d1 : decide (c.lo ≤ b) = true := decide_eq_true g1
    by_cases g2 : a ≤ c.hi
    · have d2 : decide (a ≤ c.hi) = true := decide_eq_true g2
      rw [d1, d2]
      go_enter Try.func25, Try.ntmps25
      go_wp2_with fail
      go_ret
      exact ⟨by simp [g1, g2], HB.out⟩
    · have d2 : decide (a ≤ c.hi) = false := decide_eq_false g2
      rw [d1, d2]
      go_enter Try.func25, Try.ntmps25
      go_wp2_with fail
      go_ret
      exact ⟨by simp [g2], HB.out⟩
  · have d1 : decide (c.lo ≤ b) = false := decide_eq_false g1
    rw [d1, Bool.false_and]
    go_enter Try.func25, Try.ntmps25
    go_wp2_with fail
    go_ret
    exact ⟨by simp [g1], HB.out⟩
set_option maxRecDepth 100000 in
set_option maxHeartbeats 3200000 in
theorem mdep1_any (c : Cd) (x : Int) (p : Nat) (w : World) (h : w.heap[p]? = some (.cells #[.int .i64 x] 2 (0, 0))) :
    Calls Try.prog 19 #[.agg #[.int .i64 c.lo, .int .i64 c.mid, .int .i64 c.hi], .pointer (some ⟨p, 0, none⟩)] w fun e w' => e = .returned (.bool (inC x c)) ∧ Below w.heap.size w w' := by
  have hl := (Array.getElem?_eq_some_iff.1 h).1
  have h1 := (Below.heap_alloc w (.cells #[.int .i64 c.lo, .int .i64 c.mid, .int .i64 c.hi] 41) p hl).trans h
  obtain ⟨s0, _⟩ := one_at16 h1
  have hB := (Below.refl w.heap.size w).alloc (Nat.le_refl _) (.cells #[.int .i64 c.lo, .int .i64 c.mid, .int .i64 c.hi] 41)
  have HB := Lib.hid hB
  have ch := mholds_any c.lo c.hi x
  clear h h1 hB
  go_enter Try.func19, Try.ntmps19
  go_wp2_with fail
  (with_reducible refine (ch _).mono ?_)
  rintro e w2 ⟨rfl, B2⟩
  have B3 := Lib.hid (HB.out.trans (B2.mono HB.out.size))
  clear B2 ch
  go_wp2_with fail
  go_ret
  exact ⟨rfl, B3.out⟩
/-- The places among the first n. -/
def plcs (f : Cd → Bool) (l : List Cd) (n : Nat) : List Nat := (List.range n).filter fun i => match l[i]? with
  | some c => f c
  | none => false
theorem plcs_all (f : Cd → Bool) (l : List Cd) : plcs f l l.length = placesOf f l := rfl
theorem plcs_step {f : Cd → Bool} {l : List Cd} {n : Nat} {c : Cd} (h : l[n]? = some c) : plcs f l (n + 1) = plcs f l n ++ if f c = true then [n] else [] := by
  unfold plcs
  rw [List.range_succ, List.filter_append]
  congr 1
  by_cases g : f c = true
  · simp [h, g]
  · simp [h, g]
theorem plcs_le (f : Cd → Bool) (l : List Cd) (n : Nat) : (plcs f l n).length ≤ n := by
  have := List.length_filter_le (fun i => match l[i]? with
    | some c => f c
    | none => false) (List.range n)
  rw [List.length_range] at this
  exact this
theorem info_int16 : (Try.prog.info? 3).map (fun i => (i.zero, i.size, i.bytes)) = some (some (.int .i64 0), 1, 8) := by kernel_rfl
theorem one_row16 (w : World) (n : Nat) (t : TypeId) : ∀ j u, (plE n)[j]? = some u → (w.alloc (.cells #[.int .i64 (n : Int)] t)).cell? ((⟨w.heap.size, 0, none⟩ : Addr).add j) = some u := by
  intro j u hu
  rw [Addr.add_lit, Nat.zero_add]
  simp only [World.cell?, heap_alloc_new]
  rw [← hu]
  unfold plE
  simp
set_option maxRecDepth 100000 in
set_option maxHeartbeats 6400000 in
theorem mplaces_any (l : List Cd) (hl : l.length ≤ 1000) (k : Nat) (lb : Array Value) (ek : ∀ args w, (callFunc k args).run Try.prog w = .ok (.enter k args) w) (f : Cd → Bool) {F : Nat → Prop} {v : Value} (w : World) (hs : SlAt F 3 cdC w v l) (hF : ∀ b, F b → b < w.heap.size)
    (hk : ∀ W : World, Below w.heap.size w W → ∀ c : Cd, Calls Try.prog k (#[.agg #[.int .i64 c.lo, .int .i64 c.mid, .int .i64 c.hi]] ++ lb) W fun e W' => e = .returned (.bool (f c)) ∧ Below W.heap.size W W') :
    Calls Try.prog 18 #[v, .func (.func k) #[] lb] w fun e w' => ∃ u, e = .returned u ∧ SlAt (fun b => w.heap.size ≤ b ∧ b < w'.heap.size) 1 plE w' u (placesOf f l) ∧ Below w.heap.size w w' := by
  obtain ⟨i0, hi0, hz0, hz1, hz2⟩ := info_parts info_int16
  have HS := Lib.hid hs
  obtain ⟨vx, vc, rfl⟩ := hs.slice
  have ownS : w.ownsRow w.heap.size 3 1 (.slice none 0 0) 0 [] := World.ownsRow_nil _ _ _ _
  have hR := Below.refl w.heap.size w
  have HK := Lib.hid hk
  clear hs hk
  go_enter Try.func18, Try.ntmps18
  go_wp2_with fail
  go_loopw [5, 10] (fun o i wr => ∃ n : Nat, n ≤ l.length ∧ i = .int .i64 (n : Int) ∧ wr.ownsRow w.heap.size 3 1 o (plcs f l n).length ((plcs f l n).flatMap plE) ∧ Below w.heap.size w wr) (fun _ i _ => l.length - (intOf i).toNat)
  case atStart => exact ⟨0, Nat.zero_le _, rfl, ownS, hR⟩
  case round =>
    obtain ⟨n, hn, rfl, own, hB⟩ := hrel
    clear ownS hR
    have z1 := hB.size
    by_cases hlt : n < l.length
    · obtain ⟨s, hsn⟩ : ∃ s, l[n]? = some s := ⟨_, List.getElem?_eq_getElem hlt⟩
      have i1 : (n : Int) < l.length := by omega
      have i0' : (0 : Int) ≤ (n : Int) := by omega
      rcases HS.out with ⟨_, _, _, _, hnil⟩ | ⟨b, off, cap', hvv, hbF, hcs⟩
      · rw [hnil] at hlt
        simp at hlt
      have hsxx : vx = some ⟨b, off, none⟩ := (Value.slice.inj hvv).1
      subst hsxx
      have lb' := hF b hbF
      obtain ⟨x0, x1, x2⟩ := cd_at16 (w := wr) (b := b) (q := off + n * 3) (c := s) (fun j u hu => by
        rw [hB.cell lb']
        exact hcs n s hsn j u hu)
      have hst := plcs_step (f := f) hsn
      have hle := plcs_le f l n
      have hB1 := hB.alloc z1 (.cells #[.int .i64 s.lo, .int .i64 s.mid, .int .i64 s.hi] 41)
      have own1 := own.alloc (.cells #[.int .i64 s.lo, .int .i64 s.mid, .int .i64 s.hi] 41)
      have ck := HK.out _ hB1 s
      have ST := Lib.hid hst
      have LE := Lib.hid hle
      have BB := Lib.hid (And.intro hB1 own1)
      clear hst hcs hvv hB hsn hB1 own1 own hle
      cases hf : f s with
      | true =>
        rw [hf] at ck
        have HF := Lib.hid hf
        clear hf
        go_wp2_with fail
        (with_reducible refine ck.mono ?_)
        rintro e w3 ⟨rfl, B3⟩
        obtain ⟨hB1, own1⟩ := BB.out
        have hB3 := hB1.trans (B3.mono hB1.size)
        have own3 := own_kept15 own1 B3
        have z3 := hB3.size
        clear hB1 own1 B3 ck
        have hle := LE.out
        have htk : (plcs f l (n + 1)) = plcs f l n ++ [n] := by rw [ST.out, HF.out, if_pos rfl]
        have TK := Lib.hid htk
        clear htk
        go_wp2_with (at_builtin; refine wpList_append_own _ rfl _ _ 34 rfl w.heap.size 3 i0 _ 1 8 Try.underlying34 hi0 hz0 hz1 hz2 rfl (by decide) _ _ _ rfl (own3.alloc _) ⟨w3.heap.size, 0, none⟩ 1 1 (plE n) rfl rfl (one_row16 _ _ _) (by intro u hu; simp only [plE, List.mem_cons, List.not_mem_nil, or_false] at hu; subst hu; rfl) (by unfold maxLen; omega) (by omega) (by simp only [World.size_alloc]; omega) ?_; intro v4 w4 hown4 hgrow4 _; have own4 : w4.ownsRow w.heap.size 3 1 v4 (plcs f l (n + 1)).length ((plcs f l (n + 1)).flatMap plE) := (by rw [TK.out, List.flatMap_append, List.length_append]; simpa using hown4); have B4 := (hB3.alloc z3 (.cells #[.int .i64 (n : Int)] 3)).grown hgrow4 (by simp only [World.size_alloc]; omega) (fun g hg => by have := (own3.lt g hg).1; omega); have z4 := B4.size)
        go_roundw
        case rel => exact ⟨n + 1, by omega, by go_num, own4, B4⟩
        case measure => simp [intOf]; omega
      | false =>
        rw [hf] at ck
        have HF := Lib.hid hf
        clear hf
        go_wp2_with fail
        (with_reducible refine ck.mono ?_)
        rintro e w3 ⟨rfl, B3⟩
        obtain ⟨hB1, own1⟩ := BB.out
        have hB3 := hB1.trans (B3.mono hB1.size)
        have own3 := own_kept15 own1 B3
        have X3 := Lib.hid (And.intro own3 hB3)
        clear hB1 own1 B3 ck own3 hB3
        go_wp2_with fail
        go_roundw
        case rel =>
          have htk : (plcs f l (n + 1)) = plcs f l n := by rw [ST.out, HF.out, if_neg (by simp), List.append_nil]
          rw [← htk] at X3
          exact ⟨n + 1, by omega, by go_num, X3.out⟩
        case measure => simp [intOf]; omega
    · have enl : n = l.length := by omega
      subst enl
      rw [plcs_all] at own
      have SM := Lib.hid (SlAt.own plE_length own)
      have BB := Lib.hid hB
      clear own hB
      go_wp2_with fail
      go_ret
      exact ⟨_, rfl, SM.out, BB.out⟩
theorem enters_sel1 (args : Array Value) (w : World) : (callFunc 24 args).run Try.prog w = .ok (.enter 24 args) w := by kernel_rfl
theorem enters_sel2 (args : Array Value) (w : World) : (callFunc 25 args).run Try.prog w = .ok (.enter 25 args) w := by kernel_rfl
theorem enters_dep1 (args : Array Value) (w : World) : (callFunc 19 args).run Try.prog w = .ok (.enter 19 args) w := by kernel_rfl
theorem places_count (f : Cd → Bool) : ∀ l : List Cd, (placesOf f l).length = l.countP f := by
  intro l
  have h : ∀ n, n ≤ l.length → (plcs f l n).length = (l.take n).countP f := by
    intro n
    induction n with
    | zero => intro _; rfl
    | succ n ih =>
      intro hn
      have hx : l[n]? = some l[n] := List.getElem?_eq_getElem (by omega)
      rw [plcs_step hx, List.length_append, ih (by omega), List.take_succ_eq_append_getElem (by omega), List.countP_append]
      by_cases g : f l[n] = true
      · simp [g]
      · simp [g]
  have := h l.length (Nat.le_refl _)
  rw [plcs_all, List.take_length] at this
  exact this
set_option maxRecDepth 100000 in
set_option maxHeartbeats 3200000 in
theorem mdep_any (l : List Cd) (tl : ∀ c ∈ l, c.Typed) (hc : chkC l = 0) (at_ : Int) (a0 : -9223372036854775808 ≤ at_ ∧ at_ ≤ 9223372036854775807) {F : Nat → Prop} {v : Value} (w : World) (hs : SlAt F 3 cdC w v l) (hF : ∀ b, F b → b < w.heap.size) :
    Calls Try.prog 13 #[v, .int .i64 at_] w fun e w' => e = .returned (.int .i64 (depN l at_ : Int)) ∧ Below w.heap.size w w' := by
  obtain ⟨h10, _⟩ := chk_zero hc
  have x0 := heap_alloc_new w (.cells #[.int .i64 at_] 2)
  have B0 := (Below.refl w.heap.size w).alloc (Nat.le_refl _) (.cells #[.int .i64 at_] 2)
  have z0 := World.size_alloc w (.cells #[.int .i64 at_] 2)
  have hs0 := hs.later hF B0
  obtain ⟨vx, vc, rfl⟩ := hs.slice
  have cp := mplaces_any l (by omega) 19 #[.pointer (some ⟨w.heap.size, 0, none⟩)] enters_dep1 (inC at_) _ hs0 (fun b hb => by have := hF b hb; rw [z0]; omega) (fun W hW c => mdep1_any c at_ w.heap.size W ((hW.block _ (by rw [z0]; omega)).trans x0))
  have hcnt := places_count (inC at_) l
  have HC := Lib.hid hcnt
  have X := Lib.hid (And.intro B0 z0)
  clear x0 B0 z0 hs hs0 hc hcnt
  go_enter Try.func13, Try.ntmps13
  go_wp2_with fail
  generalize w.alloc (.cells #[.int .i64 at_] 2) = w0 at *
  (with_reducible refine cp.mono ?_)
  rintro e w1 ⟨u, rfl, hu, B1⟩
  obtain ⟨ux, uc, rfl⟩ := hu.slice
  obtain ⟨B0, z0⟩ := X.out
  have BF := Lib.hid (B0.trans (B1.mono (by omega)))
  clear hu B1 cp B0 z0 X
  go_wp2_with fail
  go_ret
  refine ⟨?_, BF.out⟩
  rw [HC.out]
  rfl
set_option maxRecDepth 100000 in
set_option maxHeartbeats 6400000 in
theorem msel_any (l : List Cd) (tl : ∀ c ∈ l, c.Typed) (hc : chkC l = 0) {F : Nat → Prop} {v : Value} (w : World) (hs : SlAt F 3 cdC w v l) (hF : ∀ b, F b → b < w.heap.size) :
    Calls Try.prog 15 #[v] w fun e w' => ∃ u, e = .returned (.tuple #[.agg #[.int .i64 (spLo (spanF l)), .int .i64 (spHi (spanF l))], u, .bool (spanF l).isSome]) ∧ SlAt (fun b => w.heap.size ≤ b ∧ b < w'.heap.size) 1 plE w' u (selL l) ∧ Below w.heap.size w w' := by
  obtain ⟨h10, _⟩ := chk_zero hc
  have x0 := heap_alloc_new w (.cells #[.int .i64 0, .int .i64 0] 31)
  have B0 := (Below.refl w.heap.size w).alloc (Nat.le_refl _) (.cells #[.int .i64 0, .int .i64 0] 31)
  have z0 := World.size_alloc w (.cells #[.int .i64 0, .int .i64 0] 31)
  have hs0 := hs.later hF B0
  have HS := Lib.hid hs
  obtain ⟨vx, vc, rfl⟩ := hs.slice
  have cT := mtold_any l tl hc _ hs0 (fun b hb => by have := hF b hb; rw [z0]; omega)
  have X := Lib.hid (And.intro x0 (And.intro B0 z0))
  clear x0 B0 z0 hs hs0
  cases hsp : spanF l with
  | none =>
    have hsl : selL l = [] := by unfold selL; rw [hsp]
    rw [hsl]
    rw [hsp] at cT
    simp only [spLo, spHi, Option.isSome_none] at cT ⊢
    clear hsp hsl
    go_enter Try.func15, Try.ntmps15
    go_wp2_with fail
    generalize w.alloc (.cells #[.int .i64 0, .int .i64 0] 31) = w0 at *
    (with_reducible refine cT.mono ?_)
    rintro e w1 ⟨rfl, B1⟩
    obtain ⟨x0, B0, z0⟩ := X.out
    have x1 := (Below.heap_alloc w1 (.cells #[.int .i64 0, .int .i64 0] 31) _ (by have := B1.size; omega)).trans ((B1.block _ (by omega)).trans x0)
    have BW1 := (B0.trans (B1.mono (by omega))).alloc (by have := B1.size; omega) (.cells #[.int .i64 0, .int .i64 0] 31)
    obtain ⟨c0, c1', fr⟩ := two_at16 x1
    have X3 := Lib.hid (And.intro x1 BW1)
    clear cT X x0 B0 z0 B1 x1 BW1
    go_wp2_with fail
    obtain ⟨x3, BW3⟩ := X3.out
    have C1 := block_set 1 (.int .i64 0) (block_set 0 (.int .i64 0) x3)
    have BF := (BW3.setCell (p := ⟨w.heap.size, 0, none⟩) (Nat.le_refl _) (.int .i64 0)).setCell (p := ⟨w.heap.size, 1, none⟩) (Nat.le_refl _) (.int .i64 0)
    clear c0 c1' fr
    obtain ⟨c0, c1, _⟩ := two_at16 C1
    refine bodyPost_ret (v := .tuple #[.agg #[.int .i64 0, .int .i64 0], .slice none 0 0, .bool false]) ?_ rfl ⟨_, rfl, .inl ⟨none, 0, rfl, fun _ => rfl, rfl⟩, BF⟩
    simp [results, Try.results15, go_sem, c0, c1]
  | some s =>
    obtain ⟨a, b⟩ := s
    have hsl : selL l = selP l (a, b) := by unfold selL; rw [hsp]
    rw [hsl]
    rw [hsp] at cT
    simp only [spLo, spHi, Option.isSome_some] at cT ⊢
    have hpl : selP l (a, b) = if placesOf (midIn (a, b)) l = [] then placesOf (cutIn (a, b)) l else placesOf (midIn (a, b)) l := rfl
    have HPL := Lib.hid hpl
    clear hsp hsl hpl
    go_enter Try.func15, Try.ntmps15
    go_wp2_with fail
    generalize w.alloc (.cells #[.int .i64 0, .int .i64 0] 31) = w0 at *
    (with_reducible refine cT.mono ?_)
    rintro e w1 ⟨rfl, B1⟩
    obtain ⟨x0, B0, z0⟩ := X.out
    have x1 := (Below.heap_alloc w1 (.cells #[.int .i64 a, .int .i64 b] 31) _ (by have := B1.size; omega)).trans ((B1.block _ (by omega)).trans x0)
    have BW1 := (B0.trans (B1.mono (by omega))).alloc (by have := B1.size; omega) (.cells #[.int .i64 a, .int .i64 b] 31)
    have y1 := heap_alloc_new w1 (.cells #[.int .i64 a, .int .i64 b] 31)
    have z1 := World.size_alloc w1 (.cells #[.int .i64 a, .int .i64 b] 31)
    have lw : w.heap.size < w1.heap.size := by have := B1.size; omega
    have HW1 := Lib.hid (And.intro x1 (And.intro BW1 (And.intro y1 (And.intro z1 lw))))
    have cp1 := mplaces_any l (by omega) 24 #[.pointer (some ⟨w1.heap.size, 0, none⟩)] enters_sel1 (midIn (a, b)) _ (HS.out.later hF BW1) (fun b hb => Nat.lt_of_lt_of_le (hF b hb) BW1.size) (fun W hW c => msel1_any c a b w1.heap.size W ((hW.block _ (by rw [z1]; omega)).trans y1))
    clear cT X x0 B0 z0 B1 x1 BW1 y1 z1
    go_wp2_with fail
    generalize w1.alloc (.cells #[.int .i64 a, .int .i64 b] 31) = w2 at *
    (with_reducible refine cp1.mono ?_)
    rintro e w3 ⟨u, rfl, hu, B3⟩
    obtain ⟨ux, uc, rfl⟩ := hu.slice
    obtain ⟨x1, BW1, y1, z1, _⟩ := HW1.out
    have x3 := (B3.block _ (by omega)).trans x1
    have y3 := (B3.block _ (by omega)).trans y1
    have BW3 := BW1.trans (B3.mono BW1.size)
    have hn3 : ((placesOf (midIn (a, b)) l).length : Int) ≤ 1000 := by have := plcs_le (midIn (a, b)) l l.length; rw [plcs_all] at this; omega
    by_cases hnil : (placesOf (midIn (a, b)) l) = []
    · have hln : ((placesOf (midIn (a, b)) l).length : Int) = 0 := by rw [hnil]; rfl
      have HSEL := Lib.hid (show selP l (a, b) = placesOf (cutIn (a, b)) l by rw [HPL.out, if_pos hnil])
      have z3 := B3.size
      have cp2 := mplaces_any l (by omega) 25 #[.pointer (some ⟨w1.heap.size, 0, none⟩)] enters_sel2 (cutIn (a, b)) _ (HS.out.later hF BW3) (fun b hb => Nat.lt_of_lt_of_le (hF b hb) BW3.size) (fun W hW c => msel2_any c a b w1.heap.size W ((hW.block _ (by omega)).trans y3))
      have l13 : w1.heap.size < w3.heap.size := by omega
      have X3 := Lib.hid (And.intro x3 (And.intro y3 BW3))
      have hl0 : (placesOf (midIn (a, b)) l).length = 0 := by omega
      rw [hl0]
      clear hu x1 BW1 y1 B3 x3 y3 BW3 cp1 hnil hn3 z3 HW1 hln hl0
      go_wp2_with fail
      (with_reducible refine cp2.mono ?_)
      rintro e w4 ⟨u, rfl, hu, B4⟩
      obtain ⟨tx, tc, rfl⟩ := hu.slice
      obtain ⟨x3, y3, BW3⟩ := X3.out
      have XR := Lib.hid (And.intro ((B4.block _ (by omega)).trans x3) (And.intro ((B4.block _ (by omega)).trans y3) (And.intro (BW3.trans (B4.mono BW3.size)) (And.intro (hu.mono (G := fun k => w3.heap.size ≤ k ∧ k < w4.heap.size) fun k hk => hk) lw))))
      clear hu B4 x3 y3 BW3 cp2 X3
      obtain ⟨xR, yR, BWR, hu, lw'⟩ := XR.out
      obtain ⟨s0, s1, _⟩ := two_at16 yR
      obtain ⟨c0, c1', fr⟩ := two_at16 xR
      clear xR yR BWR hu lw'
      go_wp2_with fail
      obtain ⟨xR, yR, BWR, hu, lw'⟩ := XR.out
      have C1 := block_set 1 (.int .i64 b) (block_set 0 (.int .i64 a) xR)
      have BF := (BWR.setCell (p := ⟨w.heap.size, 0, none⟩) (Nat.le_refl _) (.int .i64 a)).setCell (p := ⟨w.heap.size, 1, none⟩) (Nat.le_refl _) (.int .i64 b)
      clear c0 c1' fr s0 s1
      obtain ⟨c0, c1, _⟩ := two_at16 C1
      have huF := (hu.kept (w' := (w4.setCell ⟨w.heap.size, 0, none⟩ (.int .i64 a)).setCell ⟨w.heap.size, 1, none⟩ (.int .i64 b)) (fun k hk => (block_far 1 (.int .i64 b) (show k ≠ w.heap.size by omega)).trans (block_far (w := w4) 0 (.int .i64 a) (show k ≠ w.heap.size by omega)))).mono (G := fun k => w.heap.size ≤ k ∧ k < ((w4.setCell ⟨w.heap.size, 0, none⟩ (.int .i64 a)).setCell ⟨w.heap.size, 1, none⟩ (.int .i64 b)).heap.size) (fun k hk => ⟨by omega, by rw [set_size, set_size]; exact hk.2⟩)
      rw [HSEL.out]
      refine bodyPost_ret (v := .tuple #[.agg #[.int .i64 a, .int .i64 b], .slice tx (placesOf (cutIn (a, b)) l).length tc, .bool true]) ?_ rfl ⟨_, rfl, huF, BF⟩
      simp [results, Try.results15, go_sem, c0, c1]
    · have hln : ((placesOf (midIn (a, b)) l).length : Int) ≠ 0 := fun h => hnil (List.eq_nil_of_length_eq_zero (by omega))
      have d1 : (((placesOf (midIn (a, b)) l).length : Int) == 0) = false := beq_eq_false_iff_ne.2 hln
      have HSEL := Lib.hid (show selP l (a, b) = placesOf (midIn (a, b)) l by rw [HPL.out, if_neg hnil])
      have XR := Lib.hid (And.intro x3 (And.intro y3 (And.intro BW3 (And.intro (hu.mono (G := fun k => w2.heap.size ≤ k ∧ k < w3.heap.size) fun k hk => hk) (show w.heap.size < w2.heap.size by omega)))))
      clear hu x1 BW1 y1 B3 x3 y3 BW3 cp1 hn3 HW1 lw
      obtain ⟨xR, yR, BWR, hu, lw'⟩ := XR.out
      obtain ⟨s0, s1, _⟩ := two_at16 yR
      obtain ⟨c0, c1', fr⟩ := two_at16 xR
      clear xR yR BWR hu lw'
      go_wp2_with fail
      obtain ⟨xR, yR, BWR, hu, lw'⟩ := XR.out
      have C1 := block_set 1 (.int .i64 b) (block_set 0 (.int .i64 a) xR)
      have BF := (BWR.setCell (p := ⟨w.heap.size, 0, none⟩) (Nat.le_refl _) (.int .i64 a)).setCell (p := ⟨w.heap.size, 1, none⟩) (Nat.le_refl _) (.int .i64 b)
      clear c0 c1' fr s0 s1
      obtain ⟨c0, c1, _⟩ := two_at16 C1
      have huF := (hu.kept (w' := (w3.setCell ⟨w.heap.size, 0, none⟩ (.int .i64 a)).setCell ⟨w.heap.size, 1, none⟩ (.int .i64 b)) (fun k hk => (block_far 1 (.int .i64 b) (show k ≠ w.heap.size by omega)).trans (block_far (w := w3) 0 (.int .i64 a) (show k ≠ w.heap.size by omega)))).mono (G := fun k => w.heap.size ≤ k ∧ k < ((w3.setCell ⟨w.heap.size, 0, none⟩ (.int .i64 a)).setCell ⟨w.heap.size, 1, none⟩ (.int .i64 b)).heap.size) (fun k hk => ⟨by omega, by rw [set_size, set_size]; exact hk.2⟩)
      rw [HSEL.out]
      refine bodyPost_ret (v := .tuple #[.agg #[.int .i64 a, .int .i64 b], .slice ux (placesOf (midIn (a, b)) l).length uc, .bool true]) ?_ rfl ⟨_, rfl, huF, BF⟩
      simp [results, Try.results15, go_sem, c0, c1]
end Go.Proofs.Ytkbjmcgnjhpkiaa.W
