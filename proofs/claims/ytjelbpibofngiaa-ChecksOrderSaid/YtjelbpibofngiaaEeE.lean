/- Layer 6's own code, walked: a map that is made in whatever order; codes of who says no. -/
import Derived.Test.YtjelbpibofngiaaEdE
import Derived.Test.YtjelbpibofngiaaHeE
import Derived.WalkKit
import Derived.Maps.OwnSet
import Derived.Maps.OwnOps
namespace Go.Proofs.Ytjelbpibofngiaa.W
open Go.RowKit Go.Maps
set_option linter.unusedVariables false
set_option linter.unusedSimpArgs false
/-- A region that draws its order, by a word that each operation keeps: k have come up. -/
theorem wpAny_inv {P : Program} {ops : Array Oper} {Q : Exit → Act → World → Prop} {md : Region.Mode} (J : Nat → Array Bool → Act → World → Prop) (N : Nat)
    (step : ∀ k L a w, J k L a w → ∀ i o, ops[i]? = some o → L.getD i true = false → (∀ e ∈ o.after, Region.binds md e = true → L.getD e.on false = true) →
      ∀ K : Act → World → Prop, (∀ a' w', J (k + 1) (L.setIfInBounds i true) a' w' → K a' w') → if Region.wanted o (yielded ops a.tmps) = true then Oper.wp P o a w K Q else K (a.put o.dst undef) w)
    (top : ∀ L a w, J N L a w → Region.ready md ops L = [])
    (done : ∀ k L a w, J k L a w → Region.ready md ops L = [] → Q .normal a w) :
    ∀ (fuel k : Nat) (L : Array Bool) (a : Act) (w : World), k + fuel = N → J k L a w → wpAny P md ops Q fuel L a w := by
  intro fuel
  induction fuel with
  | zero =>
    intro k L a w hk hJ
    obtain rfl : k = N := by omega
    exact ⟨top _ _ _ hJ, done _ _ _ _ hJ (top _ _ _ hJ)⟩
  | succ fuel ih =>
    intro k L a w hk hJ
    refine ⟨fun h => done _ _ _ _ hJ h, fun i hi => ?_⟩
    obtain ⟨hun, o, ho, hall⟩ := mem_ready.1 hi
    refine wpOp_step ho (fun K hK => ?_)
    exact step k L a w hJ i o ho hun hall K (fun a' w' h => hK _ _ (ih (k + 1) _ a' w' (by omega) h))
abbrev kDeny : Lit := .int .u32 1145392729
abbrev kRstr : Lit := .int .u32 1381192786
abbrev kRate : Lit := .int .u32 1380013125
/-- What a map of codes holds: those of the three that have come. -/
def CodesD (x y z : Bool) (D : DataW Unit) : Prop :=
  IsMap D ∧ (∀ r : Int, Maps.has D (.int .u32 r) = (x && decide (r = 1145392729) || y && decide (r = 1381192786) || z && decide (r = 1380013125))) ∧
    (x = true → ∀ u, D.atKey kDeny u = .lit (.int .i64 1)) ∧ (y = true → ∀ u, D.atKey kRstr u = .lit (.int .i64 2)) ∧ (z = true → ∀ u, D.atKey kRate u = .lit (.int .i64 3))
theorem codes_none : CodesD false false false (.map []) := ⟨isMap_empty, (fun k => by simp [has_eq]), by simp, by simp, by simp⟩
theorem key_ne {a b : Int} (h : a ≠ b) : (Lit.int .u32 a) ≠ .int .u32 b := fun e => h (Lit.int.inj e).2
theorem codes_x {x y z : Bool} {D : DataW Unit} (h : CodesD x y z D) : CodesD true y z (D.put kDeny (.lit (.int .i64 1))) := by
  obtain ⟨h0, h1, h2, h3, h4⟩ := h
  have hk : WideAt.IsKeyLit kDeny := trivial
  refine ⟨h0.put _ _, fun k => ?_, fun _ u => atKey_put_same h0 hk _ u, fun hy u => ?_, fun hz u => ?_⟩
  · by_cases e : k = 1145392729
    · subst e
      rw [has_put_same h0 hk]
      simp
    · rw [has_put_other (key_ne e), h1]
      simp [e]
  · rw [atKey_put_other (key_ne (by decide))]; exact h3 hy u
  · rw [atKey_put_other (key_ne (by decide))]; exact h4 hz u
theorem codes_y {x y z : Bool} {D : DataW Unit} (h : CodesD x y z D) : CodesD x true z (D.put kRstr (.lit (.int .i64 2))) := by
  obtain ⟨h0, h1, h2, h3, h4⟩ := h
  have hk : WideAt.IsKeyLit kRstr := trivial
  refine ⟨h0.put _ _, fun k => ?_, fun hx u => ?_, fun _ u => atKey_put_same h0 hk _ u, fun hz u => ?_⟩
  · by_cases e : k = 1381192786
    · subst e
      rw [has_put_same h0 hk]
      simp
    · rw [has_put_other (key_ne e), h1]
      simp [e]
  · rw [atKey_put_other (key_ne (by decide))]; exact h2 hx u
  · rw [atKey_put_other (key_ne (by decide))]; exact h4 hz u
theorem codes_z {x y z : Bool} {D : DataW Unit} (h : CodesD x y z D) : CodesD x y true (D.put kRate (.lit (.int .i64 3))) := by
  obtain ⟨h0, h1, h2, h3, h4⟩ := h
  have hk : WideAt.IsKeyLit kRate := trivial
  refine ⟨h0.put _ _, fun k => ?_, fun hx u => ?_, fun hy u => ?_, fun _ u => atKey_put_same h0 hk _ u⟩
  · by_cases e : k = 1380013125
    · subst e
      rw [has_put_same h0 hk]
      simp
    · rw [has_put_other (key_ne e), h1]
      simp [e]
  · rw [atKey_put_other (key_ne (by decide))]; exact h2 hx u
  · rw [atKey_put_other (key_ne (by decide))]; exact h3 hy u
theorem below_grown {w w' : World} (h : Below w.heap.size w w') : w.grownBy w' none := ⟨h.os, h.tape, h.output, h.size, fun k hk _ => h.block k hk⟩
theorem grown_below {B b : Nat} {w0 w w' : World} (h : Below B w0 w) (hs : B ≤ w.heap.size) (hb : B ≤ b) (hg : w.grownBy w' (some b)) : Below B w0 w' :=
  h.grown hg hs (fun k e => by cases e; exact hb)
theorem zero_int (w : World) : (zeroValue 3).run Try.prog w = .ok (.int .i64 0) w := by kernel_rfl
/-- The region's word: which operations have come up, and what they left. -/
def CodesJ (w0 : World) (k : Nat) (L : Array Bool) (a : Act) (w : World) : Prop :=
  ∃ (m c1 i1 c2 i2 c3 i3 f g : Bool) (x0 x1 x2 x3 x4 x5 : Value), L = #[m, c1, i1, c2, i2, c3, i3, f, g] ∧ a = { tmps := #[x0, x1, x2, x3, x4, x5], defers := [] } ∧
    k = m.toNat + c1.toNat + i1.toNat + c2.toNat + i2.toNat + c3.toNat + i3.toNat + f.toNat + g.toNat ∧
    Below w0.heap.size w0 w ∧ (i1 = true → m = true) ∧ (i2 = true → m = true) ∧ (i3 = true → m = true) ∧
    (m = true → ∃ b D, w0.heap.size ≤ b ∧ x1 = .map (some b) ∧ w.ownsMap Try.prog 27 (plainElem Try.prog 3) b (i1.toNat + i2.toNat + i3.toNat) D ∧ CodesD i1 i2 i3 D) ∧
    (c1 = true → x2 = .int .u32 1145392729) ∧ (c2 = true → x3 = .int .u32 1381192786) ∧ (c3 = true → x4 = .int .u32 1380013125) ∧ (f = true → m = true ∧ x5 = x1) ∧ (g = true → m = true ∧ x0 = x1)
set_option maxRecDepth 100000 in
set_option maxHeartbeats 6400000 in
theorem codes_any (w : World) :
    Calls Try.prog 64 #[] w fun e w' => ∃ b, e = .returned (.map (some b)) ∧ ∃ D, (∃ n, w'.ownsMap Try.prog 27 (plainElem Try.prog 3) b n D) ∧ CodesD true true true D ∧ Below w.heap.size w w' := by
  have d1 := href_any [68, 69, 78, 89] (by decide)
  have d2 := href_any [82, 83, 84, 82] (by decide)
  have d3 := href_any [82, 65, 84, 69] (by decide)
  rw [show num (refL [68, 69, 78, 89]) = 1145392729 by decide] at d1
  rw [show num (refL [82, 83, 84, 82]) = 1381192786 by decide] at d2
  rw [show num (refL [82, 65, 84, 69]) = 1380013125 by decide] at d3
  have z1 : (ByteArray.mk #[68, 69, 78, 89]) = bs [68, 69, 78, 89] := rfl
  have z2 : (ByteArray.mk #[82, 83, 84, 82]) = bs [82, 83, 84, 82] := rfl
  have z3 : (ByteArray.mk #[82, 65, 84, 69]) = bs [82, 65, 84, 69] := rfl
  go_enter Try.func64, Try.ntmps64
  go_wp2_with fail
  refine wp_region_any (by kernel_rfl) ?_
  change wpAny _ _ _ _ _ _ _ (World.drew _)
  refine wpAny_inv (CodesJ w) 9 ?step ?top ?done 9 0 _ _ _ (by decide) ?start
  case start =>
    exact ⟨false, false, false, false, false, false, false, false, false, _, _, _, _, _, _, rfl, rfl, rfl, (Below.refl _ _).drew, by simp, by simp, by simp, by simp, by simp, by simp, by simp, by simp, by simp⟩
  case top =>
    rintro L a w1 ⟨m, c1, i1, c2, i2, c3, i3, f, g, x0, x1, x2, x3, x4, x5, rfl, rfl, hk, _⟩
    have : m = true ∧ c1 = true ∧ i1 = true ∧ c2 = true ∧ i2 = true ∧ c3 = true ∧ i3 = true ∧ f = true ∧ g = true := by
      revert hk
      cases m <;> cases c1 <;> cases i1 <;> cases c2 <;> cases i2 <;> cases c3 <;> cases i3 <;> cases f <;> cases g <;> decide
    obtain ⟨rfl, rfl, rfl, rfl, rfl, rfl, rfl, rfl, rfl⟩ := this
    decide +kernel
  case done =>
    rintro k L a w1 ⟨m, c1, i1, c2, i2, c3, i3, f, g, x0, x1, x2, x3, x4, x5, rfl, rfl, hk, hB, j1, j2, j3, hm, _, _, _, hf, hg⟩ hr
    have : m = true ∧ i1 = true ∧ i2 = true ∧ i3 = true ∧ f = true ∧ g = true := by
      revert hr
      cases m <;> cases c1 <;> cases i1 <;> cases c2 <;> cases i2 <;> cases c3 <;> cases i3 <;> cases f <;> cases g <;> first | (intro _; decide) | (intro h; exact absurd (congrArg List.length h) (by decide +kernel))
    obtain ⟨rfl, rfl, rfl, rfl, rfl, rfl⟩ := this
    obtain ⟨b, D, hb, rfl, hown, hD⟩ := hm rfl
    obtain ⟨_, rfl⟩ := hg rfl
    clear hf hg j1 j2 j3 hm hr hk
    go_wp2_with fail
    go_ret
    exact ⟨b, rfl, D, ⟨_, hown⟩, hD, hB⟩
  case step =>
    rintro k L a w1 ⟨m, c1, i1, c2, i2, c3, i3, f, g, x0, x1, x2, x3, x4, x5, rfl, rfl, hk, hB, j1, j2, j3, hm, h1, h2, h3, hf, hg⟩ i o ho hun hall K hK
    have hi : i < 9 := (Array.getElem?_eq_some_iff.1 ho).1
    have hsz := hB.size
    have hc : i = 0 ∨ i = 1 ∨ i = 2 ∨ i = 3 ∨ i = 4 ∨ i = 5 ∨ i = 6 ∨ i = 7 ∨ i = 8 := by omega
    clear hi
    rcases hc with rfl | rfl | rfl | rfl | rfl | rfl | rfl | rfl | rfl
    · obtain rfl := (Option.some.inj ho).symm
      obtain rfl : m = false := hun
      have q1 : i1 = false := by cases i1; rfl; exact absurd (j1 rfl) (by decide)
      have q2 : i2 = false := by cases i2; rfl; exact absurd (j2 rfl) (by decide)
      have q3 : i3 = false := by cases i3; rfl; exact absurd (j3 rfl) (by decide)
      have q4 : f = false := by cases f; rfl; exact absurd (hf rfl).1 (by decide)
      have q5 : g = false := by cases g; rfl; exact absurd (hg rfl).1 (by decide)
      subst q1 q2 q3 q4 q5
      have hmm := @run_makeMap Try.prog
      clear ho hall hm j1 j2 j3 hf hg
      go_simp
      exact hK _ _ ⟨true, c1, false, c2, false, c3, false, false, false, _, _, _, _, _, _, rfl, rfl, by simp only [Bool.toNat_true, Bool.toNat_false] at hk ⊢; omega, hB.alloc hsz _, by simp, by simp, by simp,
        fun _ => ⟨w1.heap.size, _, hsz, rfl, World.ownsMap_made _ _ _ _, codes_none⟩, h1, h2, h3, by simp, by simp⟩
    · obtain rfl := (Option.some.inj ho).symm
      obtain rfl : c1 = false := hun
      clear ho hall
      go_simp
      refine (d1 _).mono ?_
      rintro e w5 ⟨rfl, hb5⟩
      exact hK _ _ ⟨m, true, i1, c2, i2, c3, i3, f, g, _, _, _, _, _, _, rfl, rfl, by simp only [Bool.toNat_true, Bool.toNat_false] at hk ⊢; omega, hB.trans (hb5.mono hsz), j1, j2, j3,
        fun h => let ⟨b, D, e1, e2, e3, e4⟩ := hm h; ⟨b, D, e1, e2, e3.kept (below_grown hb5) (by simp), e4⟩, fun _ => rfl, h2, h3, hf, hg⟩
    · obtain rfl := (Option.some.inj ho).symm
      obtain rfl : i1 = false := hun
      have e0 := hall ⟨0, .data⟩ (by simp) rfl
      have e1 := hall ⟨1, .data⟩ (by simp) rfl
      obtain rfl : m = true := e0
      obtain rfl : c1 = true := e1
      obtain ⟨b, D, hb, rfl, hown, hD⟩ := hm rfl
      obtain rfl := h1 rfl
      have hn : (false.toNat + i2.toNat + i3.toNat) < maxLen := by
        have t1 := Bool.toNat_le false
        have t2 := Bool.toNat_le i2
        have t3 := Bool.toNat_le i3
        unfold maxLen
        omega
      obtain ⟨w2, hrun, hown2, hg2⟩ := hown.update (int_keyed Try.underlying27) Try.underlying87 hn (keyOf_int_mk Try.underlying27 (show (Lit.int .u32 1145392729).wf = true by decide)) (plainElem_int Try.underlying3 (show (Lit.int .i64 1).wf = true by decide))
      clear ho hall
      go_simp
      exact hK _ _ ⟨true, true, true, c2, i2, c3, i3, f, g, _, _, _, _, _, _, rfl, rfl, by simp only [Bool.toNat_true, Bool.toNat_false] at hk ⊢; omega, grown_below hB hsz hb hg2, fun _ => rfl, j2, j3,
        fun _ => ⟨b, _, hb, rfl, hown2.mono (by simp only [Bool.toNat_true, Bool.toNat_false]; omega), codes_x hD⟩, h1, h2, h3, hf, hg⟩
    · obtain rfl := (Option.some.inj ho).symm
      obtain rfl : c2 = false := hun
      clear ho hall
      go_simp
      refine (d2 _).mono ?_
      rintro e w5 ⟨rfl, hb5⟩
      exact hK _ _ ⟨m, c1, i1, true, i2, c3, i3, f, g, _, _, _, _, _, _, rfl, rfl, by simp only [Bool.toNat_true, Bool.toNat_false] at hk ⊢; omega, hB.trans (hb5.mono hsz), j1, j2, j3,
        fun h => let ⟨b, D, e1, e2, e3, e4⟩ := hm h; ⟨b, D, e1, e2, e3.kept (below_grown hb5) (by simp), e4⟩, h1, fun _ => rfl, h3, hf, hg⟩
    · obtain rfl := (Option.some.inj ho).symm
      obtain rfl : i2 = false := hun
      have e0 := hall ⟨0, .data⟩ (by simp) rfl
      have e1 := hall ⟨3, .data⟩ (by simp) rfl
      obtain rfl : m = true := e0
      obtain rfl : c2 = true := e1
      obtain ⟨b, D, hb, rfl, hown, hD⟩ := hm rfl
      obtain rfl := h2 rfl
      have hn : (i1.toNat + false.toNat + i3.toNat) < maxLen := by
        have t1 := Bool.toNat_le i1
        have t2 := Bool.toNat_le false
        have t3 := Bool.toNat_le i3
        unfold maxLen
        omega
      obtain ⟨w2, hrun, hown2, hg2⟩ := hown.update (int_keyed Try.underlying27) Try.underlying87 hn (keyOf_int_mk Try.underlying27 (show (Lit.int .u32 1381192786).wf = true by decide)) (plainElem_int Try.underlying3 (show (Lit.int .i64 2).wf = true by decide))
      clear ho hall
      go_simp
      exact hK _ _ ⟨true, c1, i1, true, true, c3, i3, f, g, _, _, _, _, _, _, rfl, rfl, by simp only [Bool.toNat_true, Bool.toNat_false] at hk ⊢; omega, grown_below hB hsz hb hg2, j1, fun _ => rfl, j3,
        fun _ => ⟨b, _, hb, rfl, hown2.mono (by simp only [Bool.toNat_true, Bool.toNat_false]; omega), codes_y hD⟩, h1, h2, h3, hf, hg⟩
    · obtain rfl := (Option.some.inj ho).symm
      obtain rfl : c3 = false := hun
      clear ho hall
      go_simp
      refine (d3 _).mono ?_
      rintro e w5 ⟨rfl, hb5⟩
      exact hK _ _ ⟨m, c1, i1, c2, i2, true, i3, f, g, _, _, _, _, _, _, rfl, rfl, by simp only [Bool.toNat_true, Bool.toNat_false] at hk ⊢; omega, hB.trans (hb5.mono hsz), j1, j2, j3,
        fun h => let ⟨b, D, e1, e2, e3, e4⟩ := hm h; ⟨b, D, e1, e2, e3.kept (below_grown hb5) (by simp), e4⟩, h1, h2, fun _ => rfl, hf, hg⟩
    · obtain rfl := (Option.some.inj ho).symm
      obtain rfl : i3 = false := hun
      have e0 := hall ⟨0, .data⟩ (by simp) rfl
      have e1 := hall ⟨5, .data⟩ (by simp) rfl
      obtain rfl : m = true := e0
      obtain rfl : c3 = true := e1
      obtain ⟨b, D, hb, rfl, hown, hD⟩ := hm rfl
      obtain rfl := h3 rfl
      have hn : (i1.toNat + i2.toNat + false.toNat) < maxLen := by
        have t1 := Bool.toNat_le i1
        have t2 := Bool.toNat_le i2
        have t3 := Bool.toNat_le false
        unfold maxLen
        omega
      obtain ⟨w2, hrun, hown2, hg2⟩ := hown.update (int_keyed Try.underlying27) Try.underlying87 hn (keyOf_int_mk Try.underlying27 (show (Lit.int .u32 1380013125).wf = true by decide)) (plainElem_int Try.underlying3 (show (Lit.int .i64 3).wf = true by decide))
      clear ho hall
      go_simp
      exact hK _ _ ⟨true, c1, i1, c2, i2, true, true, f, g, _, _, _, _, _, _, rfl, rfl, by simp only [Bool.toNat_true, Bool.toNat_false] at hk ⊢; omega, grown_below hB hsz hb hg2, j1, j2, fun _ => rfl,
        fun _ => ⟨b, _, hb, rfl, hown2.mono (by simp only [Bool.toNat_true, Bool.toNat_false]; omega), codes_z hD⟩, h1, h2, h3, hf, hg⟩
    · obtain rfl := (Option.some.inj ho).symm
      obtain rfl : f = false := hun
      have e0 := hall ⟨0, .data⟩ (by simp) rfl
      obtain rfl : m = true := e0
      clear ho hall
      go_simp
      exact hK _ _ ⟨true, c1, i1, c2, i2, c3, i3, true, g, _, _, _, _, _, _, rfl, rfl, by simp only [Bool.toNat_true, Bool.toNat_false] at hk ⊢; omega, hB, j1, j2, j3, hm, h1, h2, h3, fun _ => ⟨rfl, rfl⟩, hg⟩
    · obtain rfl := (Option.some.inj ho).symm
      obtain rfl : g = false := hun
      have e7 := hall ⟨7, .data⟩ (by simp) rfl
      obtain rfl : f = true := e7
      obtain ⟨rfl, rfl⟩ := hf rfl
      clear ho hall
      go_simp
      exact hK _ _ ⟨true, c1, i1, c2, i2, c3, i3, true, true, _, _, _, _, _, _, rfl, rfl, by simp only [Bool.toNat_true, Bool.toNat_false] at hk ⊢; omega, hB, j1, j2, j3, hm, h1, h2, h3, fun _ => ⟨rfl, rfl⟩, fun _ => ⟨rfl, rfl⟩⟩
end Go.Proofs.Ytjelbpibofngiaa.W
