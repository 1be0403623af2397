/- The table of bounds: what the row's condition gives; that the program's own beginning meets it. -/
import Derived.Test.YthfgjhffcbehbaaDoorHeC
import Derived.Test.YthfgjhffcbehbaaDoorTie
import Derived.Test.YthfgjhffcbehbaaDoorCards
import Derived.ProofKit
import Derived.LaidMore
import Derived.OpenShut
import Derived.Stop.Joined
import Derived.SevenTiedAt
namespace Go.Proofs.YthfgjhffcbehbaaDoor.W
open Go.ChangeShapes Go.WideShapes Go.ChangeAt Go.RowKit
set_option linter.unusedVariables false
theorem gBounds : Tryd.prog.globalNamed "analemma/header.bounds" = some 0 := by kernel_rfl
theorem tBounds : (Tryd.prog.globals[0]?).map (·.type) = some 50 := by kernel_rfl
theorem door_met (os : Os) (args : Array Value) : laidMetH Tryd.prog [("analemma/header.bounds", Rows.laid_analemma_header_bounds)] ((World.doorLaid Tryd.prog 400 os).forCall (fun _ _ => 0) ⟨#[], args, []⟩).memory :=
  laidMetH_of_parts3 (fuel := 8) (laidMet_of_run' 8 (by kernel_rfl) (by kernel_rfl)) (by kernel_rfl) (by kernel_rfl)
theorem bound_of {W : World} {m : Nat} {cs : List Value} {lo hi : Int} {p : List MemPlace} (h : DataW.trod (fun _ => ()) Tryd.prog W 0 (fun _ => true) false m 49 cs = some (.agg [.lit (.int .i64 lo), .lit (.int .i64 hi)], p)) : cs = [.int .i64 lo, .int .i64 hi] := by
  obtain ⟨xs, n, rfl, hx, hl, hn, hg⟩ := DataW.trod_struct Tryd.underlying49 h
  have c49 : Tryd.prog.cellsOf 49 = 2 := by kernel_rfl
  have c3 : Tryd.prog.cellsOf 3 = 1 := by kernel_rfl
  have g0 := hg 0 _ rfl
  have g1 := hg 1 _ rfl
  clear hg h
  rw [c49] at hl
  match xs, hn, hx, g0, g1 with
  | [x0, x1], _, hx, g0, g1 =>
    obtain ⟨k0, e0, r0, _⟩ := DataW.trod_int Tryd.underlying3 (show DataW.trod _ Tryd.prog W 0 _ false n 3 _ = some x0 from g0)
    obtain ⟨k1, e1, r1, _⟩ := DataW.trod_int Tryd.underlying3 (show DataW.trod _ Tryd.prog W 0 _ false n 3 _ = some x1 from g1)
    subst r0
    subst r1
    simp at hx
    obtain ⟨⟨rfl, rfl⟩, _⟩ := hx
    match cs, hl with
    | [a, b], _ =>
      simp [c3] at e0 e1
      rw [e0, e1]
theorem of_laid {W : World} (h : laidMetH Tryd.prog [("analemma/header.bounds", Rows.laid_analemma_header_bounds)] W) : Laid W := by
  rw [MakeChecks.laidMetH_plain _ _ _ (by kernel_rfl)] at h
  obtain ⟨ps, ⟨g0, t0, cs0, f0, p0, q0, hg0, ht0, hv0, hd0, _, _⟩, _, _⟩ := h
  obtain rfl := Option.some.inj (gBounds.symm.trans hg0)
  obtain rfl := Option.some.inj (tBounds.symm.trans ht0)
  obtain ⟨xs, m1, rfl, hx1, hlen, hn3, hel⟩ := DataW.trod_array Tryd.underlying50 hd0
  have c49 : Tryd.prog.cellsOf 49 = 2 := by kernel_rfl
  have c50 : Tryd.prog.cellsOf 50 = 12 := by kernel_rfl
  rw [c50] at hlen
  rw [c49] at hel
  have b0 := hel 0 (by decide)
  have b1 := hel 1 (by decide)
  have b2 := hel 2 (by decide)
  have b3 := hel 3 (by decide)
  have b4 := hel 4 (by decide)
  have b5 := hel 5 (by decide)
  clear hel hd0
  obtain ⟨l0⟩ := cs0
  match xs, hn3, hx1, b0, b1, b2, b3, b4, b5 with
  | [(_, _), (_, _), (_, _), (_, _), (_, _), (_, _)], _, hx1, b0, b1, b2, b3, b4, b5 =>
    unfold Rows.laid_analemma_header_bounds at hx1
    simp only [List.map_cons, List.map_nil, Prod.mk.injEq, DataW.agg.injEq, List.cons.injEq, and_true] at hx1
    obtain ⟨⟨rfl, rfl, rfl, rfl, rfl, rfl⟩, _⟩ := hx1
    have b0 := bound_of b0
    have b1 := bound_of b1
    have b2 := bound_of b2
    have b3 := bound_of b3
    have b4 := bound_of b4
    have b5 := bound_of b5
    match l0, hlen with
    | [x0, x1, x2, x3, x4, x5, x6, x7, x8, x9, x10, x11], _ =>
      simp at b0 b1 b2 b3 b4 b5
      have hc := fun i => World.var?_cell hg0 hv0 i
      simp only [b0, b1, b2, b3, b4, b5] at hc
      have h0 := hc 0
      refine ⟨?_, by have := hc 0; simpa using this, by have := hc 1; simpa using this, by have := hc 2; simpa using this, by have := hc 3; simpa using this, by have := hc 4; simpa using this, by have := hc 5; simpa using this, by have := hc 6; simpa using this, by have := hc 7; simpa using this, by have := hc 8; simpa using this, by have := hc 9; simpa using this, by have := hc 10; simpa using this, by have := hc 11; simpa using this⟩
      · apply Nat.pos_of_ne_zero
        intro e
        have hn : W.heap[0]? = none := Array.getElem?_eq_none (by omega)
        simp [World.cell?, hn] at h0
end Go.Proofs.YthfgjhffcbehbaaDoor.W
