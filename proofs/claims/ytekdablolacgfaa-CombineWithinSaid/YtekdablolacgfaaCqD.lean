/- Layer 18's own code, walked: weights; the closures that tell what is added; two lists side by side, by an iterator. -/
import Derived.Test.YtekdablolacgfaaCqC
import Derived.Test.YtekdablolacgfaaQtC
import Derived.Test.YtekdablolacgfaaYdA
import Derived.BigQuiet
import Derived.Deep.QuietTactic
import Derived.Lib.QuietBelow
import Derived.RangeFuncNested
import Derived.RangeFuncBound
import Derived.RangeFuncCalls
import Derived.RangeFuncLeaves
import Derived.RangeFuncBox
import Derived.WalkKit
import Derived.OwnWalkIn
import Derived.TacticsInMore
import Derived.LoopNIn
import Derived.LoopIn
namespace Go.Proofs.Ytekdablolacgfaa.W
open Go.RowKit Go.Sort
set_option linter.unusedVariables false
set_option linter.unusedSimpArgs false
attribute [local go_sem] Oper.semAt_some
theorem again18 {w w' : World} (h : ∃ p : Regrown, w' = grow (redrawn w p.d) p.os) : Below w.heap.size w w' := by
  obtain ⟨p, rfl⟩ := h
  exact below_regrown w p.d p.os
theorem one_at18 {w : World} {p : Nat} {a : Value} {t : TypeId} (h : w.heap[p]? = some (.cells #[a] t (0, 0))) : w.cell? ⟨p, 0, none⟩ = some a ∧ w.frozen? ⟨p, 0, none⟩ = false := by
  refine ⟨?_, ?_⟩ <;> simp [World.cell?, World.frozen?, h]
theorem own_same18 {β : Type} {B : Nat} {I : β → World → Prop} (h : OwnFrom B I) {s : β} {X Y : World} (hs : I s X) (hB : Below X.heap.size X Y) : I s Y :=
  h s X Y none hs ⟨hB.os, hB.tape, hB.output, hB.size, fun k hk _ => hB.block k hk⟩ (fun r e => by cases e)
set_option maxRecDepth 100000 in
set_option maxHeartbeats 3200000 in
theorem cwt_any (d : Int) (d0 : -9223372036854775808 ≤ d ∧ d ≤ 9223372036854775807) (w : World) :
    Calls Try.prog 12 #[.int .i64 d] w fun e w' => e = .returned (.int .i64 (wtI d)) ∧ Below w.heap.size w w' := by
  obtain ⟨m, hm⟩ : ∃ m, max d 21474836 = m := ⟨_, rfl⟩
  have f1 := fun ts t W => run_max18 .i64 d 21474836 m hm ts t W
  have hv : wtI d = max 1 (divI 4294967296 m) := by unfold wtI; rw [hm]
  have f2 := fun ts t W => run_max18 .i64 1 (divI 4294967296 m) (wtI d) hv.symm ts t W
  have c := fdiv_any 4294967296 m (by decide) (by decide) (by omega) (by omega)
  generalize divI 4294967296 m = x at *
  generalize wtI d = y at *
  clear hm hv
  go_enter Try.func12, Try.ntmps12
  go_wp2_with fail
  (with_reducible refine (c _).mono ?_)
  rintro e w1 ⟨rfl, B1⟩
  have B := Lib.hid B1
  clear B1
  go_wp2_with fail
  go_ret
  exact ⟨rfl, B.out⟩
theorem cself_any (x : Int) (w : World) : Calls Try.prog 20 #[.int .i64 x] w fun e w' => e = .returned (.int .i64 x) ∧ Below w.heap.size w w' := by
  go_enter Try.func20, Try.ntmps20
  go_wp2_with fail
  go_ret
  exact ⟨rfl, Below.refl _ _⟩
def sqI (a x : Int) : Int := mulI (subI x a) (subI x a)
set_option maxRecDepth 100000 in
set_option maxHeartbeats 3200000 in
theorem csq_any (x a : Int) (x0 : -9223372036854775808 ≤ x ∧ x ≤ 9223372036854775807) (a0 : -9223372036854775808 ≤ a ∧ a ≤ 9223372036854775807) (b : Nat) (w : World) (h : w.heap[b]? = some (.cells #[.int .i64 a] 2 (0, 0))) :
    Calls Try.prog 27 #[.int .i64 x, .pointer (some ⟨b, 0, none⟩)] w fun e w' => e = .returned (.int .i64 (sqI a x)) ∧ Below w.heap.size w w' := by
  obtain ⟨c0, _⟩ := one_at18 h
  have r := subI18 x a
  have cS := sub_any x a x0.1 x0.2 a0.1 a0.2
  unfold sqI
  generalize subI x a = g at *
  have cM := fmul_any g g r.1 r.2 r.1 r.2
  clear h
  go_enter Try.func27, Try.ntmps27
  go_wp2_with fail
  (with_reducible refine (cS _).mono ?_)
  rintro e w1 ⟨rfl, rfl⟩
  go_wp2_with fail
  (with_reducible refine (cM _).mono ?_)
  rintro e w2 ⟨rfl, B1⟩
  have B := Lib.hid B1
  clear B1
  go_wp2_with fail
  go_ret
  exact ⟨rfl, B.out⟩
theorem enters_both1 (args : Array Value) (w : World) : (callFunc 60 args).run Try.prog w = .ok (.enter 60 args) w := by kernel_rfl
theorem enters_self (args : Array Value) (w : World) : (callFunc 20 args).run Try.prog w = .ok (.enter 20 args) w := by kernel_rfl
theorem enters_sq (args : Array Value) (w : World) : (callFunc 27 args).run Try.prog w = .ok (.enter 27 args) w := by kernel_rfl
set_option maxRecDepth 100000 in
set_option maxHeartbeats 3200000 in
theorem cboth_any (xo xd : Option Addr) (no nd co cd : Nat) (w : World) : Calls Try.prog 41 #[.slice xo no co, .slice xd nd cd] w fun e w' => e = .returned (.func (.func 60) #[] #[.pointer (some ⟨w.heap.size, 0, none⟩), .pointer (some ⟨w.heap.size + 1, 0, none⟩)]) ∧ w' = (w.alloc (.cells #[.slice xo no co] 22)).alloc (.cells #[.slice xd nd cd] 22) := by
  go_enter Try.func41, Try.ntmps41
  go_wp2_with fail
  go_ret
  exact ⟨rfl, rfl⟩
/-- These blocks stay. -/
def Stays (K : Nat → Prop) (X Y : World) : Prop := ∀ b, K b → Y.heap[b]? = X.heap[b]?
theorem Stays.refl (K : Nat → Prop) (X : World) : Stays K X X := fun _ _ => rfl
theorem Stays.trans {K : Nat → Prop} {A B C : World} (h : Stays K A B) (g : Stays K B C) : Stays K A C := fun b hb => (g b hb).trans (h b hb)
theorem Stays.of_below {K : Nat → Prop} {n : Nat} {X Y : World} (h : Below n X Y) (hK : ∀ b, K b → b < n) : Stays K X Y := fun b hb => h.block b (hK b hb)
theorem Stays.setCell {K : Nat → Prop} (X : World) (a : Addr) (v : Value) (hK : ¬ K a.block) : Stays K X (X.setCell a v) := fun b hb => Below.heap_setCell _ _ _ b (fun e => hK (e ▸ hb))
theorem Stays.cell {K : Nat → Prop} {X Y : World} (h : Stays K X Y) {b i : Nat} (hb : K b) : Y.cell? ⟨b, i, none⟩ = X.cell? ⟨b, i, none⟩ := by
  simp only [World.cell?, h b hb]
/-- Two numbers that come side by side. -/
abbrev Pr18 := { x : Int × Int // (-9223372036854775808 ≤ x.1 ∧ x.1 ≤ 9223372036854775807) ∧ (-9223372036854775808 ≤ x.2 ∧ x.2 ≤ 9223372036854775807) }
def prE (x : Pr18) : Array Value := #[.int .i64 x.1.1, .int .i64 x.1.2]
def prL (pre : List Pr18) : List (Int × Int) := pre.map fun x => x.1
theorem pr_snoc (pre : List Pr18) (x : Pr18) : prL (pre ++ [x]) = prL pre ++ [x.1] := by simp [prL]
theorem pr_length (pre : List Pr18) : (prL pre).length = pre.length := by simp [prL]
def pairs18 (o d : List Int) (n : Nat) : List (Int × Int) := (List.range n).map fun i => (o.getD i 0, d.getD i 0)
theorem pairs_succ18 (o d : List Int) (n : Nat) : pairs18 o d (n + 1) = pairs18 o d n ++ [(o.getD n 0, d.getD n 0)] := by simp [pairs18, List.range_succ]
theorem num_in18 {F : Nat → Prop} {w : World} {x : Option Addr} {c : Nat} {l : List Int} {q : Nat} (h : SlAt F 1 (oneE .i64) w (.slice x l.length c) l) (hq : q < l.length) :
    ∃ b off, x = some ⟨b, off, none⟩ ∧ F b ∧ w.cell? ⟨b, off + q, none⟩ = some (.int .i64 (l.getD q 0)) := by
  rcases h with ⟨_, _, _, _, rfl⟩ | ⟨b, off, cap, hv, hb, hc⟩
  · simp at hq
  · obtain ⟨rfl, _⟩ := Value.slice.inj hv
    refine ⟨b, off, rfl, hb, ?_⟩
    have hx : l[q]? = some (l.getD q 0) := by simp [List.getD, hq]
    have := hc q _ hx 0 _ rfl
    simpa using this
set_option maxRecDepth 100000 in
set_option maxHeartbeats 6400000 in
theorem both1_in (o d : List Int) (ho : o.length ≤ 60) (hd : d.length ≤ 60) (tx : ∀ x ∈ o, -9223372036854775808 ≤ x ∧ x ≤ 9223372036854775807) (td : ∀ x ∈ d, -9223372036854775808 ≤ x ∧ x ≤ 9223372036854775807) (K : Nat → Prop) (l Bo Bd : Nat) (vo vd : Value) (J Jx : List Pr18 → World → Prop) (W : World) (hJ : OwnFrom W.heap.size J) (hK : ∀ b, K b → b < W.heap.size)
    (hY : ∀ pre x W1, J pre W1 → pre.length < lenC o d → YieldAt Fence.wide 0 Try.prog l (prE x) W1 fun e W' => Fixed W.heap.size W1 W' ∧
      ((e = .returned (.bool true) ∧ J (pre ++ [x]) W' ∧ Stays K W1 W') ∨ (e = .returned (.bool false) ∧ Jx (pre ++ [x]) W')))
    (hBo : K Bo) (hBd : K Bd) (h1 : W.heap[Bo]? = some (.cells #[vo] 22 (0, 0))) (h2 : W.heap[Bd]? = some (.cells #[vd] 22 (0, 0))) (so : SlAt K 1 (oneE .i64) W vo o) (sd : SlAt K 1 (oneE .i64) W vd d) (h0 : J [] W) :
    CallsIn Fence.wide 0 Try.prog 60 #[.func (.yield l) #[] #[], .pointer (some ⟨Bo, 0, none⟩), .pointer (some ⟨Bd, 0, none⟩)] W fun e W' => (∃ v, e = .returned v) ∧
      ((∃ xs, prL xs = pairs18 o d (lenC o d) ∧ J xs W') ∨ (∃ pre, Jx pre W')) := by
  obtain ⟨xo, co, rfl⟩ := so.slice
  obtain ⟨xd, cd, rfl⟩ := sd.slice
  refine callsIn_of_wp Try.func60 rfl trivial ?_ rfl
  simp only [Try.ntmps60, List.size_toArray, List.length_cons, List.length_nil, Nat.reduceAdd, Nat.reduceSub, Array.replicate_succ, Array.replicate_zero, List.push_toArray, List.append_toArray, List.nil_append, List.cons_append]
  obtain ⟨b0, _⟩ := one_at18 h1
  obtain ⟨b1, _⟩ := one_at18 h2
  obtain ⟨mn, hmn⟩ : ∃ mn, min (o.length : Int) (d.length : Int) = mn := ⟨_, rfl⟩
  have f1 := fun ts t W => run_min18 .i64 (o.length : Int) (d.length : Int) mn hmn ts t W
  have hlc : mn = (lenC o d : Int) := by unfold lenC; omega
  have hlo : lenC o d ≤ o.length ∧ lenC o d ≤ d.length := by unfold lenC; omega
  have HY := Lib.hid hY
  have HJ := Lib.hid hJ
  have HS := Lib.hid (And.intro so sd)
  have HB := Lib.hid (And.intro h1 h2)
  have HT := Lib.hid (And.intro tx td)
  have hsz := Nat.le_refl W.heap.size
  clear hY hJ so sd h1 h2 hmn tx td
  gi_wp2_with fail
  gi_loopw [10] (fun v wr => ∃ (i : Nat) (pre : List Pr18), i ≤ lenC o d ∧ v = .int .i64 i ∧ pre.length = i ∧ prL pre = pairs18 o d i ∧ J pre wr ∧ Stays K W wr ∧ W.heap.size ≤ wr.heap.size) (fun v _ => lenC o d - (intOf v).toNat)
  case atStart => exact ⟨0, [], Nat.zero_le _, rfl, rfl, by simp [prL, pairs18], h0, Stays.refl _ _, Nat.le_refl _⟩
  case round =>
    obtain ⟨i, pre, hin, rfl, hpl, hP, hJs, hBw, hsw⟩ := hrel
    clear h0 b0 b1
    by_cases hi : i < lenC o d
    · have i1 : (i : Int) < mn := by omega
      have i0 : (0 : Int) ≤ (i : Int) := by omega
      have j1 : (i : Int) < o.length := by omega
      have j2 : (i : Int) < d.length := by omega
      obtain ⟨b, off, rfl, hb, x0⟩ := num_in18 HS.out.1 (q := i) (by omega)
      obtain ⟨b', off', rfl, hb', y0⟩ := num_in18 HS.out.2 (q := i) (by omega)
      have x1 := (hBw.cell hb).trans x0
      have y1 := (hBw.cell hb').trans y0
      obtain ⟨p0, _⟩ := one_at18 ((hBw Bo hBo).trans HB.out.1)
      obtain ⟨p1, _⟩ := one_at18 ((hBw Bd hBd).trans HB.out.2)
      have k0 := cell_regrown p0
      have k1 := cell_regrown p1
      have k2 := cell_regrown x1
      have k3 := cell_regrown y1
      have tt1 := HT.out.1 _ (getD_in (l := o) (q := i) (by omega))
      have tt2 := HT.out.2 _ (getD_in (l := d) (q := i) (by omega))
      obtain ⟨yo, hyo⟩ : ∃ y, o.getD i 0 = y := ⟨_, rfl⟩
      obtain ⟨yd, hyd⟩ : ∃ y, d.getD i 0 = y := ⟨_, rfl⟩
      rw [hyo] at k2 tt1
      rw [hyd] at k3 tt2
      have hsn' : prL (pre ++ [⟨(yo, yd), tt1, tt2⟩]) = pairs18 o d (i + 1) := by rw [pr_snoc, hP, pairs_succ18, hyo, hyd]
      have HSN := Lib.hid hsn'
      have HL := Lib.hid hpl
      have HBW := Lib.hid hBw
      have HJS := Lib.hid hJs
      clear x0 y0 x1 y1 p0 p1 hyo hyd hsn' hP hBw hJs hpl
      gi_wp2_with fail
      refine in_region_below_tail 9 (by kernel_rfl) (by kernel_rfl) ?_
      simp only [List.take_succ_cons, List.take_zero, List.drop_succ_cons, List.drop_zero]
      repeat (quiet_step (fail))
      refine wpQuiet_nil ?_
      intro W6 hw
      replace hw := again18 hw
      have hJ6 := own_same18 HJ.out HJS.out hw
      have hB6 := HBW.out.trans (Stays.of_below hw fun b hb => Nat.lt_of_lt_of_le (hK b hb) hsw)
      have z6 := hw.size
      have hyy := HY.out pre ⟨(yo, yd), tt1, tt2⟩ W6 hJ6 (by have := HL.out; omega)
      have HB6 := Lib.hid hB6
      clear k0 k1 k2 k3 hw hJ6 hB6
      obtain ⟨fn, tmps, assign, body, hy, hR⟩ := hyy
      unfold prE at hy
      dsimp only at hy
      gi_wp2_with fail
      refine ⟨rfl, hR.mono ?_⟩
      rintro e W3 ⟨hkf, ⟨rfl, hJ3, hkp⟩ | ⟨rfl, hJx3⟩⟩
      · have E1 := Lib.hid (And.intro hJ3 (And.intro (HB6.out.trans hkp) hkf.size))
        clear hJ3 hkp hkf
        gi_wp2_with fail
        go_roundw
        case rel =>
          obtain ⟨hJ3, hb3, hz3⟩ := E1.out
          exact ⟨i + 1, _, by omega, rfl, by simp [HL.out], HSN.out, hJ3, hb3, by omega⟩
        case measure => simp [intOf]; omega
      · have E1 := Lib.hid hJx3
        clear hJx3 hkf
        gi_wp2_with fail
        refine bodyPost_ret (results_none rfl _ _ _) rfl ?_
        exact ⟨⟨_, rfl⟩, .inr ⟨_, E1.out⟩⟩
    · obtain rfl : i = lenC o d := by omega
      have hii : ¬ (lenC o d : Int) < mn := by omega
      have E1 := Lib.hid (And.intro hP hJs)
      clear hP hJs hBw
      gi_wp2_with fail
      go_end0
      exact ⟨⟨_, rfl⟩, .inl ⟨pre, E1.out.1, E1.out.2⟩⟩
theorem both_yields (o d : List Int) (ho : o.length ≤ 60) (hd : d.length ≤ 60) (tx : ∀ x ∈ o, -9223372036854775808 ≤ x ∧ x ≤ 9223372036854775807) (td : ∀ x ∈ d, -9223372036854775808 ≤ x ∧ x ≤ 9223372036854775807) (K : Nat → Prop) (Bo Bd : Nat) (vo vd : Value) (w : World) (hK : ∀ b, K b → b < w.heap.size) (hBo : K Bo) (hBd : K Bd)
    (h1 : w.heap[Bo]? = some (.cells #[vo] 22 (0, 0))) (h2 : w.heap[Bd]? = some (.cells #[vd] 22 (0, 0))) (so : SlAt K 1 (oneE .i64) w vo o) (sd : SlAt K 1 (oneE .i64) w vd d) :
    Yields Try.prog 60 #[.pointer (some ⟨Bo, 0, none⟩), .pointer (some ⟨Bd, 0, none⟩)] prE (Stays K) (fun xs => prL xs = pairs18 o d (lenC o d)) (fun _ => True) (lenC o d) w :=
  fun l J Jx W hW hJ _ hY h0 => (both1_in o d ho hd tx td K l Bo Bd vo vd J Jx W hJ (fun b hb => Nat.lt_of_lt_of_le (hK b hb) hW.size) hY hBo hBd ((hW.block Bo (hK _ hBo)).trans h1) ((hW.block Bd (hK _ hBd)).trans h2)
    (so.kept fun b hb => hW.block b (hK b hb)) (sd.kept fun b hb => hW.block b (hK b hb)) h0).mono fun e W' h => ⟨h.1, h.2.elim .inl fun ⟨p, hp⟩ => .inr ⟨p, trivial, hp⟩⟩
end Go.Proofs.Ytekdablolacgfaa.W
