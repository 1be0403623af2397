/- A slice of calls that came in as an argument, opened. -/
import Derived.Test.YtaklalpbncdijaaLgA
import Derived.Lib.SmallJoins
import Derived.OpenShut
import Derived.ChangeOld
import Derived.Test.YtaklalpbncdijaaFixZ
namespace Go.Proofs.Ytaklalpbncdijaa.W
open Go.RowKit Go.ChangeShapes Go.WideShapes
set_option linter.unusedVariables false
theorem open_acts {H : Type} {enc : TypeId × Value → H} {w : World} {base : Nat} {spare : Nat → Bool} {held : Bool} {fuel : Nat} {cs : List Value} {x : DataW H × List MemPlace}
    (h : DataW.trod enc Try.prog w base spare held fuel 22 cs = some x) :
    ∃ (v : Value) (l : List Ac), cs = [v] ∧ SlAt (fun b => b < w.heap.size) 4 acE w v l ∧ (∀ f ∈ l, f.Typed) ∧ l.length ≤ maxLen := by
  refine open_sl Try.underlying22 4 (by kernel_rfl) (by decide) acE acE_length Ac.Typed ?_ h
  intro n cs' y hy hl
  obtain ⟨y0, y1, y2, y3, m, _, _, g0, g1, g2, g3⟩ := Joins.trod_struct4 Try.underlying30 hy
  match cs', hl with
  | [c0, c1, c2, c3], _ =>
    obtain ⟨k0, e0, _, h0⟩ := DataW.trod_int Try.underlying3 (show DataW.trod _ Try.prog w base spare held m 3 [c0] = _ from g0)
    obtain ⟨k1, e1, _, h1⟩ := DataW.trod_int Try.underlying2 (show DataW.trod _ Try.prog w base spare held m 2 [c1] = _ from g1)
    obtain ⟨k2, e2, _, h2⟩ := DataW.trod_int Try.underlying2 (show DataW.trod _ Try.prog w base spare held m 2 [c2] = _ from g2)
    obtain ⟨k3, e3, _⟩ := DataW.trod_bool Try.underlying4 (show DataW.trod _ Try.prog w base spare held m 4 [c3] = _ from g3)
    simp only [List.cons.injEq, and_true] at e0 e1 e2 e3
    subst e0 e1 e2 e3
    have b0 := bounds_i64 h0
    have b1 := bounds_i64 h1
    have b2 := bounds_i64 h2
    exact ⟨⟨k0, k1, k2, k3⟩, rfl, Ac.Typed.mk (show -9223372036854775808 ≤ k0 ∧ k0 ≤ 9223372036854775807 by omega) (show -9223372036854775808 ≤ k1 ∧ k1 ≤ 9223372036854775807 by omega) (show -9223372036854775808 ≤ k2 ∧ k2 ≤ 9223372036854775807 by omega)⟩
end Go.Proofs.Ytaklalpbncdijaa.W
