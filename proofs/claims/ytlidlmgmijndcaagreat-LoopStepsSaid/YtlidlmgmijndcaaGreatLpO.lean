/- Layer 19's laws: offers that came in, opened. -/
import Derived.Test.YtlidlmgmijndcaaGreatLpC
import Derived.Test.YtlidlmgmijndcaaGreatLpZ
import Derived.Test.YtlidlmgmijndcaaGreatRows
import Derived.Test.YtlidlmgmijndcaaGreatSlA
import Derived.Test.YtlidlmgmijndcaaGreatRowS
import Derived.Test.YtlidlmgmijndcaaGreatWdefs
import Derived.ChangeArms
import Derived.WalkSpells
import Derived.WalkLawsBesides
import Derived.Laws.OwnMore
import Derived.OpenShut
import Derived.ChangeOld
import Derived.ShutString
import Derived.WideShapes
import Derived.Handy
import Derived.WalkKit
import Derived.Lib.Hide
namespace Go.Proofs.YtlidlmgmijndcaaGreat.W
open Go.RowKit Go.Sort Go.ChangeShapes Go.WideShapes Go.ChangeMaps
set_option linter.unusedVariables false
set_option linter.unusedSimpArgs false
theorem oferE_length (c : Of) : (oferE c).length = 2 := rfl
set_option maxRecDepth 100000 in
theorem open_ofs {H : Type} {enc : TypeId × Value → H} {w : World} {base : Nat} {spare : Nat → Bool} {held : Bool} {fuel : Nat} {cs : List Value} {x : DataW H × List MemPlace}
    (h : DataW.trod enc Tryz.prog w base spare held fuel 22 cs = some x) :
    ∃ (v : Value) (l : List Of), cs = [v] ∧ SlAt (fun b => b < w.heap.size) 2 oferE w v l ∧ (∀ f ∈ l, f.Typed) ∧ l.length ≤ maxLen := by
  refine open_sl Tryz.underlying22 2 (by kernel_rfl) (by decide) oferE oferE_length Of.Typed ?_ h
  intro n cs' y hy hl
  obtain ⟨xs, m, _, _, _, hlen, hf⟩ := DataW.trod_struct Tryz.underlying32 hy
  match xs, hlen with
  | [y0, y1], _ =>
    have g0 := hf 0 _ rfl
    have g1 := hf 1 _ rfl
    match cs', hl with
    | [c0, c1], _ =>
      obtain ⟨k0, e0, _, h0⟩ := DataW.trod_int Tryz.underlying2 (show DataW.trod _ Tryz.prog w base spare held m 2 [c0] = _ from g0)
      obtain ⟨k1, e1, _, h1⟩ := DataW.trod_int Tryz.underlying30 (show DataW.trod _ Tryz.prog w base spare held m 30 [c1] = _ from g1)
      simp only [List.cons.injEq, and_true] at e0 e1
      subst e0 e1
      have b0 := bounds_i64 h0
      have b1 := bounds_u16 h1
      exact ⟨⟨k0, k1⟩, rfl, Of.Typed.mk (by dsimp only; omega) (by dsimp only; omega)⟩
theorem of_at {w : World} {b q : Nat} {s : Of} (h : ∀ j u, (oferE s)[j]? = some u → w.cell? ⟨b, q + j, none⟩ = some u) :
    w.cell? ⟨b, q, none⟩ = some (.int .i64 s.off) ∧ w.cell? ⟨b, q + 1, none⟩ = some (.int .u16 s.gap) := ⟨h 0 _ rfl, h 1 _ rfl⟩
theorem dc_ne (d : Dc) (w : World) : (binOp .neq 28 d.val d.val).run Tryz.prog w = .ok (.bool false) w := by
  unfold Dc.val
  simp [go_sem]
theorem seven_far19 {w : World} {b c : Nat} (a0 a1 a2 a3 a4 a5 a6 : Value) (h : c ≠ b) : (((((((w.setCell ⟨b, 0, none⟩ a0).setCell ⟨b, 1, none⟩ a1).setCell ⟨b, 2, none⟩ a2).setCell ⟨b, 3, none⟩ a3).setCell ⟨b, 4, none⟩ a4).setCell ⟨b, 5, none⟩ a5).setCell ⟨b, 6, none⟩ a6).heap[c]? = w.heap[c]? :=
  (block_far 6 a6 h).trans ((block_far 5 a5 h).trans ((block_far 4 a4 h).trans ((block_far 3 a3 h).trans ((block_far 2 a2 h).trans ((block_far 1 a1 h).trans (block_far 0 a0 h))))))
theorem info_dc19 : (Tryz.prog.info? 28).map (·.size) = some 7 := by kernel_rfl
theorem store_dc19 {w : World} {b : Nat} {C D : Array Value} {t : TypeId} (h : w.heap[b]? = some (.cells D t (0, 0))) (hD : D.size = 7) (hn : C.size = 7) (h1 : C.all (·.oneCell') = true) : (Instr.storeAt 28 (.pointer (some ⟨b, 0, none⟩)) (.agg C)).run Tryz.prog w = .ok () (w.setRow b C) := by
  have := run_storeVar_row (P := Tryz.prog) w b t 28 D C h (by rw [info_dc19, hn]) (by rw [hD, hn]) h1
  simp only [Instr.storeAt, Instr.sureAddr, Sem.run_bind, Sem.run_pure, Result.andThen_ok, this]
theorem below_setRow19 {B g : Nat} {w0 w : World} (hb : Below B w0 w) (hBg : B ≤ g) (cs : Array Value) : Below B w0 (w.setRow g cs) :=
  hb.trans ⟨rfl, rfl, rfl, by simp [World.setRow], fun k hk => setRow_other w g k cs (by omega)⟩
section
variable {ops : Array Oper} {Q : Exit → Act → World → Prop} {rest : List Oper} {o : Oper} {a : Act} {w : World}
theorem at_store_dc19 (hgd : o.guard = none) (x y : Operand) (ho : o.op = .store 28 x y) (b : Nat) (hx : a.eval x = .pointer (some ⟨b, 0, none⟩)) {C D : Array Value} {t : TypeId} (hy : a.eval y = .agg C) (hD : w.heap[b]? = some (.cells D t (0, 0))) (hd : D.size = 7) (hn : C.size = 7) (h1 : C.all (·.oneCell') = true) (h : wpList Tryz.prog ops Q rest (a.put o.dst undef) (w.setRow b C)) : wpList Tryz.prog ops Q (o :: rest) a w :=
  wpList_plain hgd fun K hK => by
    unfold Oper.wp execOp
    simp only [ho, hx, hy, Sem.run_bind, store_dc19 hD hd hn h1, Result.andThen_ok, Sem.run_pure]
    exact hK _ _ h
end
end Go.Proofs.YtlidlmgmijndcaaGreat.W
