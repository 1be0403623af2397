/- Layer 11's laws: a state that came in, a row of bools that came in, opened. -/
import Derived.Test.YtfangllkfcmefaaRcA
import Derived.Test.YtfangllkfcmefaaSlA
import Derived.Test.YtfangllkfcmefaaStY
import Derived.ChangeArms
import Derived.OpenShut
import Derived.ChangeOld
namespace Go.Proofs.Ytfangllkfcmefaa.W
open Go.RowKit Go.Sort Go.ChangeShapes Go.WideShapes
set_option linter.unusedVariables false
def boE (b : Bool) : List Value := [.bool b]
theorem open_bools {H : Type} {enc : TypeId × Value → H} {w : World} {base : Nat} {spare : Nat → Bool} {held : Bool} {fuel : Nat} {cs : List Value} {x : DataW H × List MemPlace}
    (h : DataW.trod enc Try.prog w base spare held fuel 37 cs = some x) :
    ∃ (v : Value) (l : List Bool), cs = [v] ∧ SlAt (fun b => b < w.heap.size) 1 boE w v l ∧ (∀ f ∈ l, (fun _ => True) f) ∧ l.length ≤ maxLen := by
  refine open_sl Try.underlying37 1 (by kernel_rfl) (by decide) boE (fun _ => rfl) (fun _ => True) ?_ h
  intro n cs' y hy hl
  match cs', hl with
  | [c0], _ =>
    obtain ⟨k0, e0, _⟩ := DataW.trod_bool Try.underlying4 hy
    simp only [List.cons.injEq, and_true] at e0
    subst e0
    exact ⟨k0, rfl, trivial⟩
set_option maxRecDepth 100000 in
theorem open_rs {H : Type} {enc : TypeId × Value → H} {w : World} {base : Nat} {spare : Nat → Bool} {held : Bool} {r : Reach} {b0 : Nat} {v : Value} {d : DataW H} {ps : List MemPlace}
    (hv : Value.okWide Try.prog w r b0 23 v) (h : DataW.Trod enc Try.prog w base spare held 23 v d ps) : ∃ c : Rs, v = c.val ∧ c.Typed := by
  obtain ⟨cs, rfl, hs⟩ := okWide_struct Try.underlying23 hv
  obtain ⟨fuel, hf⟩ := h
  have hs' : cs.size = 5 := hs.trans (by kernel_rfl)
  obtain ⟨l⟩ := cs
  match l, hs' with
  | [c0, c1, c2, c3, c4], _ =>
    obtain ⟨xs, m, _, _, _, hlen, hfs⟩ := DataW.trod_struct Try.underlying23 hf
    match xs, hlen with
    | [y0, y1, y2, y3, y4], _ =>
      have g0 := hfs 0 _ rfl
      have g1 := hfs 1 _ rfl
      have g2 := hfs 2 _ rfl
      have g3 := hfs 3 _ rfl
      have g4 := hfs 4 _ rfl
      obtain ⟨k0, e0, _, h0⟩ := DataW.trod_int Try.underlying5 (show DataW.trod _ Try.prog w base spare held m 5 [c0] = _ from g0)
      obtain ⟨k1, e1, _, h1⟩ := DataW.trod_int Try.underlying3 (show DataW.trod _ Try.prog w base spare held m 3 [c1] = _ from g1)
      obtain ⟨k2, e2, _, h2⟩ := DataW.trod_int Try.underlying3 (show DataW.trod _ Try.prog w base spare held m 3 [c2] = _ from g2)
      obtain ⟨k3, e3, _, h3⟩ := DataW.trod_int Try.underlying3 (show DataW.trod _ Try.prog w base spare held m 3 [c3] = _ from g3)
      obtain ⟨k4, e4, _, h4⟩ := DataW.trod_int Try.underlying2 (show DataW.trod _ Try.prog w base spare held m 2 [c4] = _ from g4)
      simp only [List.cons.injEq, and_true] at e0 e1 e2 e3 e4
      subst e0 e1 e2 e3 e4
      have b0 := bounds_u8 h0
      have b1 := bounds_i64 h1
      have b2 := bounds_i64 h2
      have b3 := bounds_i64 h3
      have b4 := bounds_i64 h4
      exact ⟨⟨k0, k1, k2, k3, k4⟩, rfl, ⟨(show 0 ≤ k0 ∧ k0 ≤ 255 by omega), (show -9223372036854775808 ≤ k1 ∧ k1 ≤ 9223372036854775807 by omega), (show -9223372036854775808 ≤ k2 ∧ k2 ≤ 9223372036854775807 by omega), (show -9223372036854775808 ≤ k3 ∧ k3 ≤ 9223372036854775807 by omega), (show -9223372036854775808 ≤ k4 ∧ k4 ≤ 9223372036854775807 by omega)⟩⟩
end Go.Proofs.Ytfangllkfcmefaa.W
