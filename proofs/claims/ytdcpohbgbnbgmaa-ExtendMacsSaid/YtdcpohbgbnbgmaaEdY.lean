/- What the laws of layer 6 call besides: the small case that must go well. -/
import Derived.Test.YtdcpohbgbnbgmaaEdX
import Derived.Test.YtdcpohbgbnbgmaaEdF
import Derived.Test.YtdcpohbgbnbgmaaHeE
import Derived.Test.YtdcpohbgbnbgmaaFixZ
import Derived.Test.YtdcpohbgbnbgmaaRows
import Derived.Test.YtdcpohbgbnbgmaaWdefs
import Derived.WalkSpells
import Derived.WalkLawsBesides
import Derived.Lib.Hide
import Derived.Handy
import Derived.OpenShut
import Derived.WalkKit
import Derived.BigQuiet
import Derived.Deep.QuietTactic
import Derived.Deep.DeepCutAuto
import Derived.Deep.RegionWith
import Derived.Laws.Bits64b
import Derived.IntWalk
import Derived.Test.YtdcpohbgbnbgmaaEraZ
namespace Go.Proofs.Ytdcpohbgbnbgmaa.W
open Go.RowKit Go.Sort
set_option linter.unusedVariables false
set_option linter.unusedSimpArgs false
theorem FdIn.slice {w : World} {v : Value} {l : List Fd} (h : FdIn w v l) : ∃ x c, v = .slice x l.length c := by
  rcases h with ⟨_, _, rfl, _, rfl⟩ | ⟨bb, bo, bc, rfl, _⟩
  · exact ⟨_, _, rfl⟩
  · exact ⟨_, _, rfl⟩
theorem fd_typed {l : List Fd} (h : ∀ f ∈ l, fdOk f = true) : FdTyped l := by
  intro f hf
  have := h f hf
  unfold fdOk at this
  simp at this
  omega
theorem walk_joins {s : List UInt8} {l : List Fd} {m : List UInt8} (h : walkL s = some (l, m)) : jnOk l m = true ∧ fdJoin l ++ m = s ∧ FdTyped l ∧ 16 * l.length ≤ s.length ∧ (fdJoin l).length + m.length = s.length := by
  obtain ⟨⟨h1, h2, h3⟩, h4⟩ := join_of_walk h
  have h5 := fdJoin_min l h1
  have h6 := congrArg List.length h4
  rw [List.length_append] at h6
  refine ⟨?_, h4, fd_typed h1, by omega, h6⟩
  unfold jnOk
  rw [h2, h3, List.all_eq_true.2 h1]
  simp
  exact (fdSame_iff l l).2 rfl
set_option maxHeartbeats 1600000 in
theorem xshown_any (w : World) : Calls Try.prog 8 #[] w fun e w' => e = .returned (.bool true) ∧ Below w.heap.size w w' := by
  have hw : walkL [97, 98, 99, 100] = some ([], [97, 98, 99, 100]) := by rw [walkL_step, if_pos (by decide), if_pos (by decide)]
  obtain ⟨e1, e2, e3⟩ := wk_yes hw
  have c1 := ewalk_any [97, 98, 99, 100] (by decide)
  rw [e1, e2, e3] at c1
  have c2 := href_any [82, 65, 84, 69] (by decide)
  rw [show num (refL [82, 65, 84, 69]) = 1380013125 by decide] at c2
  have c3 := ekiss_any 0 1380013125 (by decide) (by decide) (by decide) (by decide)
  rw [show kissI 0 1380013125 = 3 by decide] at c3
  have c4 := href_any [97, 98] (by decide)
  rw [show num (refL [97, 98]) = 1633812480 by decide] at c4
  have c5 := ename_any 1633812480 (by decide) (by decide)
  rw [show nameL 1633812480 = [97, 98] by decide] at c5
  have z1 : (ByteArray.mk #[97, 98, 99, 100]) = bs [97, 98, 99, 100] := rfl
  have z2 : (ByteArray.mk #[82, 65, 84, 69]) = bs [82, 65, 84, 69] := rfl
  have z3 : (ByteArray.mk #[97, 98]) = bs [97, 98] := rfl
  clear e1 e2 e3 hw
  go_enter Try.func8, Try.ntmps8
  go_wp2_with fail
  (with_reducible refine (c1 _).mono ?_)
  rintro e w1 ⟨v1, rfl, ho, hB⟩
  go_wp2_with fail
  (with_reducible refine (c2 _).mono ?_)
  rintro e w2 ⟨rfl, hb⟩
  replace hB := hB.trans (hb.mono hB.size)
  go_wp2_with fail
  (with_reducible refine (c3 _).mono ?_)
  rintro e w3 ⟨rfl, hb⟩
  replace hB := hB.trans (hb.mono hB.size)
  go_wp2_with fail
  (with_reducible refine (c4 _).mono ?_)
  rintro e w4 ⟨rfl, hb⟩
  replace hB := hB.trans (hb.mono hB.size)
  go_wp2_with fail
  (with_reducible refine (c5 _).mono ?_)
  rintro e w5 ⟨rfl, hb⟩
  replace hB := hB.trans (hb.mono hB.size)
  go_wp2_with fail
  go_ret
  exact ⟨rfl, hB⟩
end Go.Proofs.Ytdcpohbgbnbgmaa.W
