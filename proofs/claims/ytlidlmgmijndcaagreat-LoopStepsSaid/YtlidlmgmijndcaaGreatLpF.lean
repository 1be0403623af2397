/- Layer 19's own code, walked: by how much a frequency is turned; news: what they are, and what is done to a discipline. -/
import Derived.Test.YtlidlmgmijndcaaGreatLpE
namespace Go.Proofs.YtlidlmgmijndcaaGreat.W
open Go.RowKit Go.Sort Go.WideShapes
set_option linter.unusedVariables false
set_option linter.unusedSimpArgs false
set_option maxRecDepth 100000 in
set_option maxHeartbeats 6400000 in
theorem lpturn_any (p : Pm) (t : p.Typed) (d : Dc) (td : d.Typed) (o gone n : Int) (o0 : -9223372036854775808 ≤ o ∧ o ≤ 9223372036854775807) (g0 : -9223372036854775808 ≤ gone ∧ gone ≤ 9223372036854775807) (n0 : -9223372036854775808 ≤ n ∧ n ≤ 9223372036854775807) (w : World) :
    Calls Tryz.prog 15 #[p.val, d.val, .int .i64 o, .int .i64 gone, .int .i64 n] w fun e w' => e = .returned (.int .i64 (turnL p d o gone n)) ∧ Below w.heap.size w w' := by
  obtain ⟨W, hW⟩ : ∃ W, (w.alloc (.cells (pmC p) 25)).alloc (.cells (dcC d) 28) = W := ⟨_, rfl⟩
  obtain ⟨h1, h2, hB, hz⟩ := two_newE _ _ _ _ _ _ hW
  have hp : 4 ≤ pollL n ∧ pollL n ≤ 17 := by unfold pollL; omega
  have c1 : ∀ w, Calls Tryz.prog 24 #[.int .i64 n] w fun e w' => e = .returned (.int .i64 (pollL n)) ∧ w = w' := lpwithin_any n
  have c2 : ∀ w, Calls Tryz.prog 28 #[.int .i64 (pollL n)] w fun e w' => e = .returned (.int .i64 (powL (pollL n))) ∧ w = w' := pow_any (pollL n) (by omega) (by omega)
  have m1 := fun ts t => minD19 gone (powL (pollL n)) (min gone (powL (pollL n))) rfl ts t
  have r2 : -9223372036854775808 ≤ powL (pollL n) ∧ powL (pollL n) ≤ 9223372036854775807 := rangeH19 4294967296 (pollL n)
  have r3 : -9223372036854775808 ≤ min gone (powL (pollL n)) ∧ min gone (powL (pollL n)) ≤ 9223372036854775807 := by omega
  have c3 := fmul_any o (min gone (powL (pollL n))) o0.1 o0.2 r3.1 r3.2
  have r4 := rangeM19 o (min gone (powL (pollL n)))
  have c4 := shift_any (mulI o (min gone (powL (pollL n)))) (-(2 * pollL n + 8)) r4.1 r4.2 (by omega) (by omega)
  have r5 := rangeH19 (mulI o (min gone (powL (pollL n)))) (-(2 * pollL n + 8))
  have c5 := sub_any o d.off o0.1 o0.2 td.off.1 td.off.2
  have r6 := rangeS19 o d.off
  have c6 := fdiv_any (subI o d.off) gone r6.1 r6.2 g0.1 g0.2
  have r7 := rangeD19 (subI o d.off) gone
  have c7 := shift_any (divI (subI o d.off) gone) (-2) r7.1 r7.2 (by decide) (by decide)
  have r8 := rangeH19 (divI (subI o d.off) gone) (-2)
  have c8 := add_any (shiftI (mulI o (min gone (powL (pollL n)))) (-(2 * pollL n + 8))) (shiftI (divI (subI o d.off) gone) (-2)) r5.1 r5.2 r8.1 r8.2
  have v1 : IntKind.i64.wrap (2 * pollL n) = 2 * pollL n := IntWalk.i64_in _ (by omega)
  have v2 : IntKind.i64.wrap (2 * pollL n + 8) = 2 * pollL n + 8 := IntWalk.i64_in _ (by omega)
  have v3 : IntKind.i64.wrap (-(2 * pollL n + 8)) = -(2 * pollL n + 8) := IntWalk.i64_in _ (by omega)
  unfold turnL
  generalize addI (shiftI (mulI o (min gone (powL (pollL n)))) (-(2 * pollL n + 8))) (shiftI (divI (subI o d.off) gone) (-2)) = x8 at *
  generalize shiftI (divI (subI o d.off) gone) (-2) = x7 at *
  generalize divI (subI o d.off) gone = x6 at *
  generalize subI o d.off = x5 at *
  generalize shiftI (mulI o (min gone (powL (pollL n)))) (-(2 * pollL n + 8)) = x4 at *
  generalize mulI o (min gone (powL (pollL n))) = x3 at *
  generalize min gone (powL (pollL n)) = x2 at *
  generalize powL (pollL n) = x1 at *
  generalize pollL n = k at *
  unfold Pm.val Dc.val
  unfold pmC dcC at hW
  unfold dcC at h2
  clear hp r2 r3 r4 r5 r6 r7 r8 t td o0 g0 n0
  have HH := Lib.hid (And.intro hB (And.intro h2 hz))
  clear h1 h2 hB hz
  by_cases g : 8796093022208 < gone
  · have g1 : decide (gone ≤ 8796093022208) = false := decide_eq_false (by omega)
    rw [if_pos g]
    clear g
    go_enter Tryz.func15, Tryz.ntmps15
    go_wp2_with (rw [hW])
    (with_reducible refine (c1 _).mono ?_)
    rintro e w1 ⟨rfl, rfl⟩
    go_wp2_with fail
    (with_reducible refine (c2 _).mono ?_)
    rintro e w1 ⟨rfl, rfl⟩
    go_wp2_with fail
    (with_reducible refine (c3 _).mono ?_)
    rintro e w1 ⟨rfl, B1⟩
    go_wp2_with fail
    (with_reducible refine (c4 _).mono ?_)
    rintro e w2 ⟨rfl, rfl⟩
    obtain ⟨hB, h2, hz⟩ := HH.out
    have k2 := (B1.block _ (by omega)).trans h2
    have BB := Lib.hid (hB.trans (B1.mono hB.size))
    clear hB h2 hz B1 HH hW
    obtain ⟨q0, q1, q2, q3, q4, q5, q6⟩ := seven_inD k2
    clear k2
    go_wp2_with fail
    (with_reducible refine (c5 _).mono ?_)
    rintro e w2 ⟨rfl, rfl⟩
    go_wp2_with fail
    (with_reducible refine (c6 _).mono ?_)
    rintro e w2 ⟨rfl, B2⟩
    clear q0 q1 q2 q3 q4 q5 q6
    go_wp2_with fail
    (with_reducible refine (c7 _).mono ?_)
    rintro e w3 ⟨rfl, rfl⟩
    go_wp2_with fail
    (with_reducible refine (c8 _).mono ?_)
    rintro e w3 ⟨rfl, rfl⟩
    go_wp2_with fail
    go_ret
    exact ⟨rfl, BB.out.trans (B2.mono BB.out.size)⟩
  · have g1 : decide (gone ≤ 8796093022208) = true := decide_eq_true (by omega)
    rw [if_neg g]
    clear g
    go_enter Tryz.func15, Tryz.ntmps15
    go_wp2_with (rw [hW])
    (with_reducible refine (c1 _).mono ?_)
    rintro e w1 ⟨rfl, rfl⟩
    go_wp2_with fail
    (with_reducible refine (c2 _).mono ?_)
    rintro e w1 ⟨rfl, rfl⟩
    go_wp2_with fail
    (with_reducible refine (c3 _).mono ?_)
    rintro e w1 ⟨rfl, B1⟩
    go_wp2_with fail
    (with_reducible refine (c4 _).mono ?_)
    rintro e w2 ⟨rfl, rfl⟩
    go_wp2_with fail
    go_ret
    have hB := HH.out.1
    exact ⟨rfl, hB.trans (B1.mono hB.size)⟩
/-- News: an offset, and the discipline that it comes to. -/
structure Nw where
  p : Pm
  d : Dc
  off : Int
  at_ : Int
  gone : Int
  poll : Int
abbrev nwC (n : Nw) : Array Value := #[.int .i64 n.p.step, .int .i64 n.p.watch, .int .i64 n.p.panic, .int .i64 n.p.maxrate, .int .i64 n.p.phi, .int .i64 n.p.maxdist, .int .i64 n.p.gate, .int .i64 n.p.minpoll, .int .i64 n.p.maxpoll, .int .i64 n.p.burst, .int .i64 n.p.minsane, .int .i64 n.p.minleft, .int .i64 n.d.st, .int .i64 n.d.at_, .int .i64 n.d.off, .int .i64 n.d.freq, .int .i64 n.d.jit, .int .i64 n.d.wan, .int .i64 n.d.rest, .int .i64 n.off, .int .i64 n.at_, .int .i64 n.gone, .int .i64 n.poll]
def Nw.val (n : Nw) : Value := .agg (nwC n)
structure Nw.Typed (n : Nw) : Prop where
  p : n.p.Typed
  rate : -9223372036854775807 ≤ n.p.maxrate
  d : n.d.Typed
  off : -9223372036854775808 ≤ n.off ∧ n.off ≤ 9223372036854775807
  at_ : -9223372036854775808 ≤ n.at_ ∧ n.at_ ≤ 9223372036854775807
  gone : -9223372036854775808 ≤ n.gone ∧ n.gone ≤ 9223372036854775807
  poll : -9223372036854775808 ≤ n.poll ∧ n.poll ≤ 9223372036854775807
abbrev ddC (d : Dc) (k by_ : Int) : Array Value := #[.int .i64 d.st, .int .i64 d.at_, .int .i64 d.off, .int .i64 d.freq, .int .i64 d.jit, .int .i64 d.wan, .int .i64 d.rest, .int .i64 k, .int .i64 by_]
def ddV (d : Dc) (k by_ : Int) : Value := .agg (ddC d k by_)
abbrev dd0 : Array Value := #[.int .i64 0, .int .i64 0, .int .i64 0, .int .i64 0, .int .i64 0, .int .i64 0, .int .i64 0, .int .i64 0, .int .i64 0]
theorem dd_oneE (d : Dc) (k by_ : Int) : (ddC d k by_).all (·.oneCell') = true := by simp [Value.oneCell']
theorem nw_oneE (n : Nw) : (nwC n).all (·.oneCell') = true := by simp [Value.oneCell']
theorem row_atE {w : World} {b : Nat} {C : Array Value} {t : TypeId} (h : w.heap[b]? = some (.cells C t (0, 0))) (j : Nat) (u : Value) (hu : C[j]? = some u) : w.cell? ⟨b, j, none⟩ = some u := by
  simp [World.cell?, h, hu]
theorem row_thawE {w : World} {b : Nat} {C : Array Value} {t : TypeId} (h : w.heap[b]? = some (.cells C t (0, 0))) (j : Nat) : w.frozen? ⟨b, j, none⟩ = false := by
  simp [World.frozen?, h]
set_option maxRecDepth 100000 in
set_option maxHeartbeats 6400000 in
theorem nfar_any (n : Nw) (tn : n.Typed) (w : World) :
    Calls Tryz.prog 76 #[n.val] w fun e w' => e = .returned (.bool (decide (n.p.step < absI n.off))) ∧ Below w.heap.size w w' := by
  obtain ⟨W, hW⟩ : ∃ W, w.alloc (.cells (nwC n) 63) = W := ⟨_, rfl⟩
  have h1 : W.heap[w.heap.size]? = some (.cells (nwC n) 63) := hW ▸ heap_alloc_new w _
  have hB : Below w.heap.size w W := hW ▸ (Below.refl w.heap.size w).alloc (Nat.le_refl _) _
  have c := abs_any n.off tn.off.1 tn.off.2
  generalize absI n.off = x at *
  have q0 := row_atE h1 0 _ rfl
  have q19 := row_atE h1 19 _ rfl
  clear tn h1
  unfold Nw.val
  unfold nwC at *
  go_enter Tryz.func76, Tryz.ntmps76
  go_upto_region 1 with (rw [hW])
  clear hW
  go_quiet (with_reducible exact quiet_eq (c _))
  go_wp2_with fail
  go_ret
  exact ⟨rfl, below_drewN hB _⟩
set_option maxRecDepth 100000 in
set_option maxHeartbeats 6400000 in
theorem nsoon_any (n : Nw) (w : World) :
    Calls Tryz.prog 79 #[n.val] w fun e w' => e = .returned (.bool (decide (n.gone < n.p.watch))) ∧ Below w.heap.size w w' := by
  obtain ⟨W, hW⟩ : ∃ W, w.alloc (.cells (nwC n) 63) = W := ⟨_, rfl⟩
  have h1 : W.heap[w.heap.size]? = some (.cells (nwC n) 63) := hW ▸ heap_alloc_new w _
  have hB : Below w.heap.size w W := hW ▸ (Below.refl w.heap.size w).alloc (Nat.le_refl _) _
  have q1 := row_atE h1 1 _ rfl
  have q21 := row_atE h1 21 _ rfl
  clear h1
  unfold Nw.val
  unfold nwC at *
  go_enter Tryz.func79, Tryz.ntmps79
  go_wp2_with (rw [hW])
  go_ret
  exact ⟨rfl, hB⟩
set_option maxRecDepth 100000 in
set_option maxHeartbeats 6400000 in
theorem nnothing_any (n : Nw) (w : World) :
    Calls Tryz.prog 80 #[n.val] w fun e w' => e = .returned (ddV n.d 0 0) ∧ Below w.heap.size w w' := by
  obtain ⟨W, hW⟩ : ∃ W, (w.alloc (.cells (nwC n) 63)).alloc (.cells dd0 58) = W := ⟨_, rfl⟩
  obtain ⟨h1, h2, hB, hz⟩ := two_newE _ _ _ _ _ _ hW
  have q12 := row_atE h1 12 _ rfl
  have q13 := row_atE h1 13 _ rfl
  have q14 := row_atE h1 14 _ rfl
  have q15 := row_atE h1 15 _ rfl
  have q16 := row_atE h1 16 _ rfl
  have q17 := row_atE h1 17 _ rfl
  have q18 := row_atE h1 18 _ rfl
  have one := dd_oneE n.d 0 0
  clear h1
  unfold Nw.val ddV
  unfold nwC dd0 ddC at *
  go_enter Tryz.func80, Tryz.ntmps80
  go_wp2_with (first | (rw [hW]) | (refine at_store_E info_ddE rfl _ _ rfl _ rfl rfl h2 rfl rfl one ?_))
  exact bodyPost_ret (results_cellE Tryz.results80 _ rfl (loadVar_E rfl Tryz.underlying58 info_ddE (setRow_heap W _ _ _ _ _ h2) rfl)) rfl ⟨rfl, below_setRowE hB (by omega) _⟩
end Go.Proofs.YtlidlmgmijndcaaGreat.W
