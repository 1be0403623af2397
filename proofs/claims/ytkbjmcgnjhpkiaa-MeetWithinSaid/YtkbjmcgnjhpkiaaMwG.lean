/- Layer 16's own code, walked: from where to where so many spans have numbers in common. -/
import Derived.Test.YtkbjmcgnjhpkiaaMwF
import Derived.Test.YtkbjmcgnjhpkiaaMwC
import Derived.Test.YtkbjmcgnjhpkiaaQtB
namespace Go.Proofs.Ytkbjmcgnjhpkiaa.W
open Go.RowKit Go.Sort
set_option linter.unusedVariables false
set_option linter.unusedSimpArgs false
theorem Yields.imp {α : Type} {P : Program} {g : Nat} {lb : Array Value} {encs : α → Array Value} {Kp : World → World → Prop} {S Sp S' Sp' : List α → Prop} {N : Nat} {w : World} (h : Yields P g lb encs Kp S Sp N w) (h1 : ∀ xs, S xs → S' xs) (h2 : ∀ xs, Sp xs → Sp' xs) : Yields P g lb encs Kp S' Sp' N w :=
  fun l J Jx W hW hJ hJx hY h0 => (h l J Jx W hW hJ hJx hY h0).mono fun e W' ⟨hv, hr⟩ => ⟨hv, by
    rcases hr with ⟨xs, hS, hj⟩ | ⟨xs, hS, hj⟩
    · exact .inl ⟨xs, h1 xs hS, hj⟩
    · exact .inr ⟨xs, h2 xs hS, hj⟩⟩
theorem enters_all (args : Array Value) (w : World) : (callFunc 34 args).run Try.prog w = .ok (.enter 34 args) w := by kernel_rfl
theorem enters_back (args : Array Value) (w : World) : (callFunc 35 args).run Try.prog w = .ok (.enter 35 args) w := by kernel_rfl
theorem enters_walk (args : Array Value) (w : World) : (callFunc 33 args).run Try.prog w = .ok (.enter 33 args) w := by kernel_rfl
theorem wd_map (sgn : Int) (hs : sgn = -1 ∨ sgn = 1) (xs : List Ied) : wdL (xs.map (toW sgn hs)) = (egsOf xs).map fun e => (e, e.sd * sgn) := by
  unfold wdL egsOf
  rw [List.map_map, List.map_map]
  rfl
theorem up_yields (E : List Eg) (hE : ∀ e ∈ E, e.Ok) (hl : E.length ≤ 100000) (Bs Ba Be : Nat) (v : Value) (W : World) (h1 : W.heap[Bs]? = some (.cells #[v] 55 (0, 0)))
    (h2 : W.heap[Ba]? = some (.cells #[.func (.func 34) #[] #[.pointer (some ⟨Bs, 0, none⟩)]] 61 (0, 0))) (h3 : W.heap[Be]? = some (.cells #[.int .i64 (-1)] 63 (0, 0))) (hR : SlAt (fun b => b < W.heap.size) 2 egE W v E) :
    Yields Try.prog 33 #[.pointer (some ⟨Ba, 0, none⟩), .pointer (some ⟨Be, 0, none⟩)] wedE (Below W.heap.size) (fun ys => wdL ys = upL E) (fun ys => wdL ys <+: upL E) E.length W := by
  have l1 := (Array.getElem?_eq_some_iff.1 h1).1
  have l2 := (Array.getElem?_eq_some_iff.1 h2).1
  have l3 := (Array.getElem?_eq_some_iff.1 h3).1
  refine (walk_yields _ _ enters_all (-1) (.inl rfl) Ba Be W.heap.size W (Nat.le_refl _) l2 l3 h2 h3 (all_yields E hE hl Bs W.heap.size v W (Nat.le_refl _) l1 h1 hR)).imp ?_ ?_
  · rintro ys ⟨xs, hS, rfl⟩
    rw [wd_map, hS]
    rfl
  · rintro ys ⟨xs, ⟨R, hR⟩, rfl⟩
    rw [wd_map]
    exact ⟨R.map fun e => (e, e.sd * -1), by unfold upL; rw [← hR, List.map_append]⟩
theorem dn_yields (E : List Eg) (hE : ∀ e ∈ E, e.Ok) (hl : E.length ≤ 100000) (Bs Ba Be : Nat) (v : Value) (W : World) (h1 : W.heap[Bs]? = some (.cells #[v] 55 (0, 0)))
    (h2 : W.heap[Ba]? = some (.cells #[.func (.func 35) #[] #[.pointer (some ⟨Bs, 0, none⟩)]] 61 (0, 0))) (h3 : W.heap[Be]? = some (.cells #[.int .i64 1] 63 (0, 0))) (hR : SlAt (fun b => b < W.heap.size) 2 egE W v E) :
    Yields Try.prog 33 #[.pointer (some ⟨Ba, 0, none⟩), .pointer (some ⟨Be, 0, none⟩)] wedE (Below W.heap.size) (fun ys => wdL ys = dnL E) (fun ys => wdL ys <+: dnL E) E.length W := by
  have l1 := (Array.getElem?_eq_some_iff.1 h1).1
  have l2 := (Array.getElem?_eq_some_iff.1 h2).1
  have l3 := (Array.getElem?_eq_some_iff.1 h3).1
  refine (walk_yields _ _ enters_back 1 (.inr rfl) Ba Be W.heap.size W (Nat.le_refl _) l2 l3 h2 h3 (back_yields E hE hl Bs W.heap.size v W (Nat.le_refl _) l1 h1 hR)).imp ?_ ?_
  · rintro ys ⟨xs, hS, rfl⟩
    rw [wd_map, hS]
    rfl
  · rintro ys ⟨xs, ⟨R, hR⟩, rfl⟩
    rw [wd_map]
    exact ⟨R.map fun e => (e, e.sd * 1), by unfold dnL; rw [← hR, List.map_append]⟩
theorem all_at (v : Value) (hv : ∃ a n c, v = .slice a n c) (w : World) :
    Calls Try.prog 27 #[v] w fun e w' => e = .returned (.func (.func 34) #[] #[.pointer (some ⟨w.heap.size, 0, none⟩)]) ∧ w'.heap[w.heap.size]? = some (.cells #[v] 55 (0, 0)) ∧ Below w.heap.size w w' ∧ w'.heap.size = w.heap.size + 1 :=
  (all_any v hv w).mono fun e w' ⟨he, hw⟩ => ⟨he, by rw [hw]; exact heap_alloc_new _ _, by rw [hw]; exact (Below.refl _ _).alloc (Nat.le_refl _) _, by rw [hw, World.size_alloc]⟩
theorem back_at (v : Value) (hv : ∃ a n c, v = .slice a n c) (w : World) :
    Calls Try.prog 28 #[v] w fun e w' => e = .returned (.func (.func 35) #[] #[.pointer (some ⟨w.heap.size, 0, none⟩)]) ∧ w'.heap[w.heap.size]? = some (.cells #[v] 55 (0, 0)) ∧ Below w.heap.size w w' ∧ w'.heap.size = w.heap.size + 1 :=
  (back_any v hv w).mono fun e w' ⟨he, hw⟩ => ⟨he, by rw [hw]; exact heap_alloc_new _ _, by rw [hw]; exact (Below.refl _ _).alloc (Nat.le_refl _) _, by rw [hw, World.size_alloc]⟩
theorem walk_at (g : Nat) (lb : Array Value) (s : Int) (w : World) :
    Calls Try.prog 26 #[.func (.func g) #[] lb, .int .i64 s] w fun e w' => e = .returned (.func (.func 33) #[] #[.pointer (some ⟨w.heap.size, 0, none⟩), .pointer (some ⟨w.heap.size + 1, 0, none⟩)]) ∧
      w'.heap[w.heap.size]? = some (.cells #[.func (.func g) #[] lb] 61 (0, 0)) ∧ w'.heap[w.heap.size + 1]? = some (.cells #[.int .i64 s] 63 (0, 0)) ∧ Below w.heap.size w w' ∧ w'.heap.size = w.heap.size + 2 :=
  (mwalk_any g lb s w).mono fun e w' ⟨he, hw⟩ => ⟨he, two_new16 _ _ _ _ _ _ hw.symm⟩
/-- What is told of so many. -/
def comF (l : List Cd) (need : Nat) : Option ((Int × Int) × Nat) := match lowO l need, highO l need with
  | some a, some b => some ((a, b), midsLo l a + midsHi l b)
  | _, _ => none
theorem com_none {l : List Cd} {need : Nat} (h : lowO l need = none) (h0 : 0 < need) : highO l need = none := by
  cases hb : highO l need with
  | none => rfl
  | some b =>
    obtain ⟨a, ha, _⟩ := low_some h0 ((high_iff h0 b).1 hb).1
    rw [h] at ha
    cases ha
theorem com_some {l : List Cd} {need : Nat} {a : Int} (h : lowO l need = some a) (h0 : 0 < need) : ∃ b, highO l need = some b ∧ a ≤ b := by
  obtain ⟨h1, h2⟩ := (low_iff h0 a).1 h
  obtain ⟨b, hb, h3, h4⟩ := high_some h0 h1
  exact ⟨b, hb, h4 a h1⟩
def comS (l : List Cd) (need : Nat) : Option (Int × Int) := (comF l need).map (·.1)
def comM (l : List Cd) (need : Nat) : Int := match comF l need with
  | some r => r.2
  | none => 0
theorem mids_le (l : List Cd) (a : Int) : midsLo l a ≤ l.length ∧ midsHi l a ≤ l.length := ⟨List.countP_le_length, List.countP_le_length⟩
theorem edges_ok {l : List Cd} (tl : ∀ c ∈ l, c.Typed) {E : List Eg} (h : IsEdges l E) : ∀ e ∈ E, e.Ok := fun e he => allE_ok tl e (h.perm.mem_iff.1 he)
theorem edges_length {l : List Cd} {E : List Eg} (h : IsEdges l E) : E.length = l.length * 3 := by rw [h.perm.length_eq, allE_length]
theorem quiet_below16 {w w' : World} (h : ∃ p : Regrown, w' = grow (redrawn w p.d) p.os) : Below w.heap.size w w' := by
  obtain ⟨p, rfl⟩ := h
  exact below_regrown w p.d p.os
theorem four16 {w : World} {p q : Nat} {a b c d : Value} {t u : TypeId} (h : w.heap[p]? = some (.cells #[a, b] t (0, 0))) (g : w.heap[q]? = some (.cells #[c, d] u (0, 0))) :
    w.cell? ⟨p, 0, none⟩ = some a ∧ w.cell? ⟨p, 1, none⟩ = some b ∧ w.cell? ⟨q, 0, none⟩ = some c ∧ w.cell? ⟨q, 1, none⟩ = some d := ⟨(two_at16 h).1, (two_at16 h).2.1, (two_at16 g).1, (two_at16 g).2.1⟩
theorem kept16 {w w' : World} {p : Nat} {o : Obj} (h : w.heap[p]? = some o) (hB : Below w.heap.size w w') : w'.heap[p]? = some o := (hB.block _ (Array.getElem?_eq_some_iff.1 h).1).trans h
set_option maxRecDepth 100000 in
set_option maxHeartbeats 6400000 in
theorem mcommon_any (l : List Cd) (tl : ∀ c ∈ l, c.Typed) (ok : ∀ c ∈ l, c.Ok) (hl : l.length ≤ 1000) {E : List Eg} (hE : IsEdges l E) (need : Nat) (h0 : 0 < need ∨ l = []) (hn : need ≤ 1000) {v : Value} (w : World) (hs : SlAt (fun b => b < w.heap.size) 2 egE w v E) :
    Calls Try.prog 21 #[v, .int .i64 (need : Int)] w fun e w' => e = .returned (.tuple #[.agg #[.int .i64 (spLo (comS l need)), .int .i64 (spHi (comS l need))], .int .i64 (comM l need), .bool (comF l need).isSome]) ∧ Below w.heap.size w w' := by
  have hEo := edges_ok tl hE
  have hEl := edges_length hE
  have hEN : E.length ≤ 100000 := by omega
  have hru : reachF need 0 (upL E) = (lowO l need).map fun a => ⟨a, -1⟩ := by
    rcases h0 with h0 | rfl
    · exact reach_up ok hE h0
    · obtain rfl : E = [] := List.eq_nil_of_length_eq_zero (by simpa using hEl)
      rfl
  have hrd : reachF need 0 (dnL E) = (highO l need).map fun b => ⟨b, 1⟩ := by
    rcases h0 with h0 | rfl
    · exact reach_dn ok hE h0
    · obtain rfl : E = [] := List.eq_nil_of_length_eq_zero (by simpa using hEl)
      rfl
  obtain ⟨vx, vc, rfl⟩ := hs.slice
  have hsv : ∃ a n c, Value.slice vx E.length vc = .slice a n c := ⟨_, _, _, rfl⟩
  -- the result's cell
  have x0 := heap_alloc_new w (.cells #[.int .i64 0, .int .i64 0] 31)
  have B0 := (Below.refl w.heap.size w).alloc (Nat.le_refl _) (.cells #[.int .i64 0, .int .i64 0] 31)
  have z0 := World.size_alloc w (.cells #[.int .i64 0, .int .i64 0] 31)
  have X := Lib.hid (And.intro x0 (And.intro B0 z0))
  have HS := Lib.hid hs
  have HI := Lib.hid (And.intro hE (And.intro hEo (And.intro hEl hEN)))
  have HR := Lib.hid (And.intro hru hrd)
  clear x0 B0 z0 hs hE hEo hEl hEN hru hrd tl
  go_enter Try.func21, Try.ntmps21
  go_wp2_with fail
  generalize w.alloc (.cells #[.int .i64 0, .int .i64 0] 31) = w0 at *
  (with_reducible refine (all_at _ hsv _).mono ?_)
  rintro e w1 ⟨rfl, x1, B1, z1⟩
  have X1 := Lib.hid (And.intro x1 (And.intro B1 z1))
  clear x1 B1 z1
  go_wp2_with fail
  (with_reducible refine (walk_at _ _ _ _).mono ?_)
  rintro e w2 ⟨rfl, x2, y2, B2, z2⟩
  have X2 := Lib.hid (And.intro x2 (And.intro y2 (And.intro B2 z2)))
  clear x2 y2 B2 z2
  go_wp2_with fail
  (with_reducible refine (back_at _ hsv _).mono ?_)
  rintro e w3 ⟨rfl, x3, B3, z3⟩
  have X3 := Lib.hid (And.intro x3 (And.intro B3 z3))
  clear x3 B3 z3
  go_wp2_with fail
  (with_reducible refine (walk_at _ _ _ _).mono ?_)
  rintro e w4 ⟨rfl, x4, y4, B4, z4⟩
  obtain ⟨x0, B0, z0⟩ := X.out
  obtain ⟨x1, B1, z1⟩ := X1.out
  obtain ⟨x2, y2, B2, z2⟩ := X2.out
  obtain ⟨x3, B3, z3⟩ := X3.out
  obtain ⟨hE, hEo, hEl, hEN⟩ := HI.out
  obtain ⟨hru, hrd⟩ := HR.out
  have B14 : Below w1.heap.size w1 w4 := (B2.trans (B3.mono (by omega))).trans (B4.mono (by omega))
  have B24 : Below w2.heap.size w2 w4 := B3.trans (B4.mono (by omega))
  have B34 : Below w3.heap.size w3 w4 := B4
  have B04 : Below w0.heap.size w0 w4 := B1.trans (B14.mono (by omega))
  have BW4 : Below w.heap.size w w4 := B0.trans (B04.mono (by omega))
  have hs4 : SlAt (fun b => b < w4.heap.size) 2 egE w4 (.slice vx E.length vc) E := (HS.out.kept fun b hb => BW4.block b hb).mono fun b hb => by omega
  have YU := up_yields E hEo hEN w0.heap.size w1.heap.size (w1.heap.size + 1) _ w4 ((B14.block _ (by omega)).trans x1) ((B24.block _ (by omega)).trans x2) ((B24.block _ (by omega)).trans y2) hs4
  have YD := dn_yields E hEo hEN w2.heap.size w3.heap.size (w3.heap.size + 1) _ w4 ((B34.block _ (by omega)).trans x3) x4 y4 hs4
  have r4 := (B04.block _ (by omega)).trans x0
  have l4 : w.heap.size < w4.heap.size := by omega
  have cU := mreach_any 33 _ enters_walk need (upL E) E.length hEN w4.heap.size w4 (Nat.le_refl _) YU
  have cP : ∀ W : World, Below w4.heap.size w4 W → ∀ tg : Eg, _ := fun W hW tg => mpassed_any 33 _ enters_walk tg (upL E) E.length hEN w4.heap.size W hW.size (YU.below hW)
  have cD : ∀ W : World, Below w4.heap.size w4 W → _ := fun W hW => mreach_any 33 _ enters_walk need (dnL E) E.length hEN w4.heap.size W hW.size (YD.below hW)
  have cQ : ∀ W : World, Below w4.heap.size w4 W → ∀ tg : Eg, _ := fun W hW tg => mpassed_any 33 _ enters_walk tg (dnL E) E.length hEN w4.heap.size W hW.size (YD.below hW)
  rw [hru] at cU
  rw [hrd] at cD
  have HC := Lib.hid (And.intro r4 (And.intro BW4 l4))
  clear x0 B0 z0 x1 B1 z1 x2 y2 B2 z2 x3 B3 z3 x4 y4 B4 z4 B14 B24 B34 B04 BW4 hs4 YU YD r4 l4 X X1 X2 X3 HS HR hru hrd hE hEo hEl hEN hsv
  cases hlo : lowO l need with
  | none =>
    have hhi : highO l need = none := by
      rcases h0 with h0 | rfl
      · exact com_none hlo h0
      · rfl
    have hc : comF l need = none := by unfold comF; rw [hlo]
    have hc' : spLo (comS l need) = 0 ∧ spHi (comS l need) = 0 ∧ comM l need = 0 ∧ (comF l need).isSome = false := by
      unfold comS comM
      rw [hc]
      exact ⟨rfl, rfl, rfl, rfl⟩
    have HCO := Lib.hid hc'
    rw [hlo] at cU
    simp only [hhi] at cD
    simp only [Option.map_none, egD, Eg.val, Option.isSome_none] at cU cD
    clear hc hc' hlo hhi cP cQ
    go_wp2_with fail
    (with_reducible refine cU.mono ?_)
    rintro e w5 ⟨rfl, B5⟩
    have x6 := heap_alloc_new w5 (.cells #[.int .i64 0, .int .i64 0] 65)
    have B6 := B5.alloc B5.size (.cells #[.int .i64 0, .int .i64 0] 65)
    have z6 := World.size_alloc w5 (.cells #[.int .i64 0, .int .i64 0] 65)
    have cD6 := cD _ B6
    have H6 := Lib.hid (And.intro x6 (And.intro B6 z6))
    clear x6 B6 z6 B5 cU cD
    go_wp2_with fail
    generalize w5.alloc (.cells #[.int .i64 0, .int .i64 0] 65) = w6 at *
    (with_reducible refine cD6.mono ?_)
    rintro e w7 ⟨rfl, B7⟩
    have x8 := heap_alloc_new w7 (.cells #[.int .i64 0, .int .i64 0] 65)
    have B8 := B7.alloc B7.size (.cells #[.int .i64 0, .int .i64 0] 65)
    have z8 := World.size_alloc w7 (.cells #[.int .i64 0, .int .i64 0] 65)
    obtain ⟨x6, B6, z6⟩ := H6.out
    obtain ⟨r4, BW4, l4⟩ := HC.out
    have B68 := B6.trans (B8.mono B6.size)
    have r8 := (B68.block _ l4).trans r4
    have BW8 := BW4.trans (B68.mono (by omega))
    obtain ⟨c0, c1, fr⟩ := two_at16 r8
    have H8 := Lib.hid (And.intro r8 BW8)
    clear x8 B8 z8 B7 cD6 x6 B6 z6 H6 r4 BW4 l4 B68 r8 BW8 HC
    go_wp2_with fail
    obtain ⟨r8, BW8⟩ := H8.out
    have C1 := block_set 1 (.int .i64 0) (block_set 0 (.int .i64 0) r8)
    have BF := (BW8.setCell (p := ⟨w.heap.size, 0, none⟩) (Nat.le_refl _) (.int .i64 0)).setCell (p := ⟨w.heap.size, 1, none⟩) (Nat.le_refl _) (.int .i64 0)
    clear c0 c1 fr
    obtain ⟨c0, c1, _⟩ := two_at16 C1
    obtain ⟨q1, q2, q3, q4⟩ := HCO.out
    rw [q1, q2, q3, q4]
    refine bodyPost_ret (v := .tuple #[.agg #[.int .i64 0, .int .i64 0], .int .i64 0, .bool false]) ?_ rfl ⟨rfl, BF⟩
    simp [results, Try.results21, go_sem, c0, c1]
  | some a =>
    have hn0 : 0 < need := by
      rcases h0 with h0 | rfl
      · exact h0
      · simp [lowO, List.min?] at hlo
    obtain ⟨b, hhi, hab⟩ := com_some hlo hn0
    have hc : comF l need = some ((a, b), midsLo l a + midsHi l b) := by unfold comF; rw [hlo, hhi]
    have hE := HI.out.1
    have hp1 := pass_up ok hE (low_edge hE hlo)
    have hp2 := pass_dn ok hE (high_edge hE hhi)
    have hm1 := (mids_le l a).1
    have hm2 := (mids_le l b).2
    have cP1 := fun W hW => cP W hW ⟨a, -1⟩
    have cQ1 := fun W hW => cQ W hW ⟨b, 1⟩
    simp only [hp1] at cP1
    simp only [hp2] at cQ1
    obtain ⟨m1, k1⟩ : ∃ m : Int, (midsLo l a : Int) = m := ⟨_, rfl⟩
    obtain ⟨m2, k2⟩ : ∃ m : Int, (midsHi l b : Int) = m := ⟨_, rfl⟩
    have hc' : spLo (comS l need) = a ∧ spHi (comS l need) = b ∧ comM l need = m1 + m2 ∧ (comF l need).isSome = true := by
      unfold comS comM
      rw [hc]
      refine ⟨rfl, rfl, ?_, rfl⟩
      show ((midsLo l a + midsHi l b : Nat) : Int) = _
      omega
    have hw : wrap64 (m1 + m2) = m1 + m2 := by unfold wrap64; omega
    have HW := Lib.hid (show IntKind.i64.wrap (m1 + m2) = m1 + m2 by rw [IntKind.wrap_i64]; omega)
    have HCO := Lib.hid hc'
    have dab : decide (b < a) = false := decide_eq_false (by omega)
    rw [k1] at cP1
    rw [k2] at cQ1
    rw [hlo] at cU
    rw [hhi] at cD
    simp only [Option.map_some, egD, Eg.val, Option.isSome_some] at cU cD cP1 cQ1
    clear hc hc' hlo hhi cP cQ hE hp1 hp2 hm1 hm2 k1 k2 HI hab
    go_wp2_with fail
    (with_reducible refine cU.mono ?_)
    rintro e w5 ⟨rfl, B5⟩
    have zB5 := B5.size
    have x6 := heap_alloc_new w5 (.cells #[.int .i64 a, .int .i64 (-1)] 65)
    have B6 := B5.alloc B5.size (.cells #[.int .i64 a, .int .i64 (-1)] 65)
    have z6 := World.size_alloc w5 (.cells #[.int .i64 a, .int .i64 (-1)] 65)
    have cD6 := cD _ B6
    have H6 := Lib.hid (And.intro x6 (And.intro B6 z6))
    clear x6 B6 z6 B5 cU cD
    go_wp2_with fail
    generalize w5.alloc (.cells #[.int .i64 a, .int .i64 (-1)] 65) = w6 at *
    (with_reducible refine cD6.mono ?_)
    rintro e w7 ⟨rfl, B7⟩
    have x8 := heap_alloc_new w7 (.cells #[.int .i64 b, .int .i64 1] 65)
    have B8 := B7.alloc B7.size (.cells #[.int .i64 b, .int .i64 1] 65)
    have z8 := World.size_alloc w7 (.cells #[.int .i64 b, .int .i64 1] 65)
    obtain ⟨x6, B6, z6⟩ := H6.out
    obtain ⟨r4, BW4, l4⟩ := HC.out
    have zB7 := B7.size
    have B48 := B6.trans (B8.mono B6.size)
    have r8 := (B48.block _ l4).trans r4
    have BW8 := BW4.trans (B48.mono (by omega))
    have x68 := (B8.block _ (by omega)).trans x6
    obtain ⟨c0, c1, fr⟩ := two_at16 r8
    obtain ⟨e0, e1, _⟩ := two_at16 x68
    obtain ⟨f0, f1, _⟩ := two_at16 x8
    have lw : w.heap.size < w7.heap.size + 1 := by have := B48.size; rw [z8] at this; omega
    have l5 : w5.heap.size < w7.heap.size + 1 := by omega
    have z48 := B48.size
    have ne5 : w5.heap.size ≠ w.heap.size := by omega
    have ne7 : w7.heap.size ≠ w.heap.size := by omega
    have H8 := Lib.hid (And.intro r8 (And.intro BW8 (And.intro B48 (And.intro x68 x8))))
    clear B8 B7 cD6 x6 B6 z6 H6 r4 BW4 l4 r8 BW8 HC x68 x8 zB7 B48 z48 zB5
    go_wp2_with fail
    generalize w7.alloc (.cells #[.int .i64 b, .int .i64 1] 65) = w8 at *
    rw [← z8] at lw l5
    have l7 : w7.heap.size < w8.heap.size := by omega
    obtain ⟨r8, BW8, B48, A8', Z8'⟩ := H8.out
    have D48 : Below w4.heap.size w4 w8.drew := B48.drew
    have DW8 : Below w.heap.size w w8.drew := BW8.drew
    have R8 : w8.drew.heap[w.heap.size]? = some (.cells #[.int .i64 0, .int .i64 0] 31 (0, 0)) := r8
    have A8 : w8.drew.heap[w5.heap.size]? = some (.cells #[.int .i64 a, .int .i64 (-1)] 65 (0, 0)) := A8'
    have Z8 : w8.drew.heap[w7.heap.size]? = some (.cells #[.int .i64 b, .int .i64 1] 65 (0, 0)) := Z8'
    have K0 := four16 A8 Z8
    clear c0 c1 fr e0 e1 f0 f1 r8 BW8 B48 A8' Z8'
    go_region_held3 (fun w' => w'.cell? ⟨w5.heap.size, 0, none⟩ = some (.int .i64 a) ∧ w'.cell? ⟨w5.heap.size, 1, none⟩ = some (.int .i64 (-1)) ∧ w'.cell? ⟨w7.heap.size, 0, none⟩ = some (.int .i64 b) ∧ w'.cell? ⟨w7.heap.size, 1, none⟩ = some (.int .i64 1))
      (with_reducible assumption)
      (first
        | (go_at_call 30; (with_reducible refine (cP1 _ D48).mono ?_); rintro e v1 ⟨rfl, g1⟩; have D49 := D48.trans (g1.mono D48.size); have DW9 := DW8.trans (g1.mono DW8.size); have R9 := (g1.block _ lw).trans R8; have A9 := (g1.block _ l5).trans A8; have Z9 := (g1.block _ l7).trans Z8; have K1 := four16 A9 Z9)
        | (go_at_call 30; (with_reducible refine (cQ1 _ D49).mono ?_); rintro e v2 ⟨rfl, g2⟩; have DWA := DW9.trans (g2.mono DW9.size); have RA := kept16 R9 g2; have AA := kept16 A9 g2; have ZA := kept16 Z9 g2; have K2 := four16 AA ZA; have K3 := four16 (((block_far (w := v2.setCell ⟨w.heap.size, 0, none⟩ (.int .i64 a)) 1 (.int .i64 b) ne5).trans (block_far (w := v2) 0 (.int .i64 a) ne5)).trans AA) (((block_far (w := v2.setCell ⟨w.heap.size, 0, none⟩ (.int .i64 a)) 1 (.int .i64 b) ne7).trans (block_far (w := v2) 0 (.int .i64 a) ne7)).trans ZA); obtain ⟨c0, c1, fr⟩ := two_at16 RA))
    all_goals (have HA := Lib.hid (And.intro RA DWA))
    all_goals clear K0 K1 K2 K3 AA ZA R8 A8 Z8 R9 A9 Z9 D48 D49 DW8 DW9 RA DWA cP1 cQ1
    all_goals go_wp2_with fail
    all_goals
      obtain ⟨r9, BW9⟩ := HA.out
      have C1 := block_set 1 (.int .i64 b) (block_set 0 (.int .i64 a) r9)
      have BF := (BW9.setCell (p := ⟨w.heap.size, 0, none⟩) (Nat.le_refl _) (.int .i64 a)).setCell (p := ⟨w.heap.size, 1, none⟩) (Nat.le_refl _) (.int .i64 b)
      clear c0 c1 fr
      obtain ⟨c0, c1, _⟩ := two_at16 C1
      obtain ⟨q1, q2, q3, q4⟩ := HCO.out
      rw [q1, q2, q3, q4]
      refine bodyPost_ret (v := .tuple #[.agg #[.int .i64 a, .int .i64 b], .int .i64 (m1 + m2), .bool true]) ?_ rfl ⟨rfl, BF⟩
      simp [results, Try.results21, go_sem, c0, c1]
      exact HW.out
end Go.Proofs.Ytkbjmcgnjhpkiaa.W
