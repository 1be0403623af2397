/- Layer 16's own code, walked: Check, Meet, Major. -/
import Derived.Test.YtkbjmcgnjhpkiaaMwG
namespace Go.Proofs.Ytkbjmcgnjhpkiaa.W
open Go.RowKit Go.Sort
set_option linter.unusedVariables false
set_option linter.unusedSimpArgs false
theorem meet_com (l : List Cd) (k : Nat) (hk : 2 * k < l.length) : meetAt l k = match comF l (l.length - k) with
    | some r => if r.2 ≤ k then some r.1 else none
    | none => none := by
  have h0 : 0 < l.length - k := by omega
  unfold meetAt comF
  cases hlo : lowO l (l.length - k) with
  | none => rfl
  | some a =>
    obtain ⟨b, hb, hab⟩ := com_some hlo h0
    rw [hb]
    dsimp only
    by_cases g : midsLo l a + midsHi l b ≤ k
    · rw [if_pos ⟨g, hab⟩, if_pos g]
    · rw [if_neg (fun h => g h.1), if_neg g]
theorem maj_com (l : List Cd) : comS l (needM l.length) = majF l := by
  unfold comS comF majF
  cases lowO l (needM l.length) with
  | none => rfl
  | some a =>
    cases highO l (needM l.length) with
    | none => rfl
    | some b => rfl
theorem meet_stop {l : List Cd} {n : Nat} {s : Int × Int} (h1 : ∀ k, k < n → meetAt l k = none) (h2 : meetAt l n = some s) (h3 : 2 * n < l.length) : meetF l = some (s, n) := by
  unfold meetF
  rw [List.findSome?_eq_some_iff]
  refine ⟨List.range n, n, (List.range ((l.length + 1) / 2)).drop (n + 1), ?_, by rw [h2]; rfl, fun k hk => by rw [h1 k (List.mem_range.1 hk)]; rfl⟩
  have hn : n < (List.range ((l.length + 1) / 2)).length := by rw [List.length_range]; omega
  have e := List.take_append_drop n (List.range ((l.length + 1) / 2))
  rw [List.drop_eq_getElem_cons hn, List.take_range, Nat.min_eq_left (by rw [List.length_range] at hn; omega), List.getElem_range] at e
  exact e.symm
theorem meet_over {l : List Cd} {n : Nat} (h1 : ∀ k, k < n → meetAt l k = none) (h3 : ¬ 2 * n < l.length) : meetF l = none := by
  unfold meetF
  rw [List.findSome?_eq_none_iff]
  intro k hk
  rw [h1 k (by have := List.mem_range.1 hk; omega)]
  rfl
set_option maxRecDepth 100000 in
set_option maxHeartbeats 3200000 in
theorem mright_any (c : Cd) (w : World) : Calls Try.prog 17 #[.agg #[.int .i64 c.lo, .int .i64 c.mid, .int .i64 c.hi]] w fun e w' => e = .returned (.bool (decide c.Ok)) ∧ Below w.heap.size w w' := by
  have hB := Lib.hid ((Below.refl w.heap.size w).alloc (Nat.le_refl _) (.cells #[.int .i64 c.lo, .int .i64 c.mid, .int .i64 c.hi] 41))
  by_cases g1 : c.lo ≤ c.mid
  · have d1 : decide (c.lo ≤ c.mid) = true := decide_eq_true g1
    by_cases g2 : c.mid ≤ c.hi
    · have d2 : decide (c.mid ≤ c.hi) = true := decide_eq_true g2
      have ho : decide c.Ok = true := decide_eq_true ⟨g1, g2⟩
      rw [ho]
      clear ho
      go_enter Try.func17, Try.ntmps17
      go_wp2_with fail
      go_ret
      exact ⟨by simp [g1, g2], hB.out⟩
    · have d2 : decide (c.mid ≤ c.hi) = false := decide_eq_false g2
      have ho : decide c.Ok = false := decide_eq_false fun h => g2 h.2
      rw [ho]
      clear ho
      go_enter Try.func17, Try.ntmps17
      go_wp2_with fail
      go_ret
      exact ⟨by simp [g2], hB.out⟩
  · have d1 : decide (c.lo ≤ c.mid) = false := decide_eq_false g1
    have ho : decide c.Ok = false := decide_eq_false fun h => g1 h.1
    rw [ho]
    clear ho
    go_enter Try.func17, Try.ntmps17
    go_wp2_with fail
    go_ret
    exact ⟨by simp [g1], hB.out⟩
set_option maxRecDepth 100000 in
set_option maxHeartbeats 6400000 in
theorem mchk_any (l : List Cd) (tl : ∀ c ∈ l, c.Typed) {F : Nat → Prop} {v : Value} (w : World) (hs : SlAt F 3 cdC w v l) (hF : ∀ b, F b → b < w.heap.size) :
    Calls Try.prog 9 #[v] w fun e w' => e = .returned (.int .i64 (chkC l)) ∧ Below w.heap.size w w' := by
  have HS := Lib.hid hs
  obtain ⟨vx, vc, rfl⟩ := hs.slice
  clear hs
  have hv : chkC l = if 10 < l.length ∨ ∃ c ∈ l, ¬ c.Ok then 1 else 0 := rfl
  by_cases h10 : 10 < l.length
  · rw [hv, if_pos (.inl h10)]
    have i1 : (10 : Int) < l.length := by omega
    clear hv
    go_enter Try.func9, Try.ntmps9
    go_wp2_with fail
    go_ret
    exact ⟨rfl, Below.refl _ _⟩
  · have i2 : ¬ (10 : Int) < l.length := by omega
    have HV := Lib.hid hv
    have hR := Below.refl w.heap.size w
    clear hv
    go_enter Try.func9, Try.ntmps9
    go_wp2_with fail
    go_loopw [10] (fun i wr => ∃ n : Nat, n ≤ l.length ∧ i = .int .i64 (n : Int) ∧ (∀ c ∈ l.take n, c.Ok) ∧ Below w.heap.size w wr) (fun i _ => l.length - (intOf i).toNat)
    case atStart => exact ⟨0, Nat.zero_le _, rfl, by simp, hR⟩
    case round =>
      obtain ⟨n, hn, rfl, hok, hB⟩ := hrel
      have OK := Lib.hid hok
      clear hR hok
      by_cases hlt : n < l.length
      · obtain ⟨s, hsn⟩ : ∃ s, l[n]? = some s := ⟨_, List.getElem?_eq_getElem hlt⟩
        have i1 : (n : Int) < l.length := by omega
        have i0' : (0 : Int) ≤ (n : Int) := by omega
        rcases HS.out with ⟨_, _, _, _, hnil⟩ | ⟨b, off, cap', hvv, hbF, hcs⟩
        · rw [hnil] at hlt
          simp at hlt
        have hsxx : vx = some ⟨b, off, none⟩ := (Value.slice.inj hvv).1
        subst hsxx
        have lb := hF b hbF
        obtain ⟨x0, x1, x2⟩ := cd_at16 (w := wr) (b := b) (q := off + n * 3) (c := s) (fun j u hu => by
          rw [hB.cell lb]
          exact hcs n s hsn j u hu)
        have htk : l.take (n + 1) = l.take n ++ [s] := by
          obtain ⟨h1, rfl⟩ := List.getElem?_eq_some_iff.1 hsn
          exact List.take_succ_eq_append_getElem h1
        have TK := Lib.hid htk
        have z1 := hB.size
        have BB := Lib.hid (hB.alloc z1 (.cells #[.int .i64 s.lo, .int .i64 s.mid, .int .i64 s.hi] 41))
        have MS := Lib.hid (List.mem_of_getElem? hsn)
        have cr := mright_any s
        clear htk hcs hvv hB hsn
        by_cases go : s.Ok
        · rw [decide_eq_true go] at cr
          have GO := Lib.hid go
          clear go
          go_wp2_with fail
          (with_reducible refine (cr _).mono ?_)
          rintro e w3 ⟨rfl, B3⟩
          have B4 := Lib.hid (BB.out.trans (B3.mono BB.out.size))
          clear B3 cr
          go_wp2_with fail
          go_roundw
          case rel =>
            refine ⟨n + 1, by omega, by go_num, fun c hc => ?_, B4.out⟩
            rw [TK.out] at hc
            rcases List.mem_append.1 hc with hc | hc
            · exact OK.out c hc
            · rw [List.mem_singleton.1 hc]
              exact GO.out
          case measure => simp [intOf]; omega
        · rw [decide_eq_false go] at cr
          have hvl : chkC l = 1 := by rw [HV.out, if_pos (.inr ⟨s, MS.out, go⟩)]
          have HVL := Lib.hid hvl
          clear hvl go
          go_wp2_with fail
          (with_reducible refine (cr _).mono ?_)
          rintro e w3 ⟨rfl, B3⟩
          have B4 := Lib.hid (BB.out.trans (B3.mono BB.out.size))
          clear B3 cr
          go_wp2_with fail
          go_ret
          exact ⟨congrArg (fun z => Ending.returned (.int .i64 z)) HVL.out.symm, B4.out⟩
      · have enl : n = l.length := by omega
        subst enl
        have hvl : chkC l = 0 := by
          rw [HV.out, if_neg]
          rintro (h | ⟨c, hc, h⟩)
          · exact h10 h
          · have := OK.out
            rw [List.take_length] at this
            exact h (this c hc)
        have HVL := Lib.hid hvl
        have BB := Lib.hid hB
        clear hvl hB
        go_wp2_with fail
        go_ret
        exact ⟨congrArg (fun z => Ending.returned (.int .i64 z)) HVL.out.symm, BB.out⟩
end Go.Proofs.Ytkbjmcgnjhpkiaa.W
