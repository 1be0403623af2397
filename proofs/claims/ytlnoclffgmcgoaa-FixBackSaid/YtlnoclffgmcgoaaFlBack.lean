/- FixBack: for every two int64s, what is added is taken off again, where nothing was cut; sums and products are the same in either order; what is taken from 0 twice, and a number times or by one second, is itself. No condition. -/
import Derived.Test.YtlnoclffgmcgoaaFixZ
import Derived.WalkKit
import Derived.WalkSpells
import Derived.WalkLawsBesides
import Derived.Lib.Hide
import Derived.Handy
import Derived.ProofKit
import Derived.OpenShut
import Derived.ShutString
import Derived.ChangeOld
import Derived.Below
namespace Go.Proofs.Ytlnoclffgmcgoaa.FixBack
open Go.Proofs.Ytlnoclffgmcgoaa.W
open Go.ChangeShapes Go.WideShapes Go.ChangeAt Go.RowKit
open Go.ChangeMaps (open_string shut_string)
set_option linter.unusedVariables false
theorem own : ownKnob Try.prog.godebug = none := by kernel_rfl
theorem laidOut : laidOutB Try.prog = true := by kernel_rfl
set_option linter.unusedSimpArgs false
theorem quarter (a : Int) (h : -9223372036854775808 ≤ a) (h' : a ≤ 9223372036854775807) : ∃ x, a.tdiv 4 = x ∧ (0 ≤ a → a / 4 = x) ∧ -2305843009213693952 ≤ x ∧ x ≤ 2305843009213693951 := by
  refine ⟨a.tdiv 4, rfl, fun h => (Int.tdiv_eq_ediv_of_nonneg h).symm, ?_⟩
  by_cases h0 : 0 ≤ a
  · rw [Int.tdiv_eq_ediv_of_nonneg h0]; omega
  · obtain ⟨b, rfl⟩ : ∃ b, a = -b := ⟨-a, by omega⟩
    rw [Int.neg_tdiv, Int.tdiv_eq_ediv_of_nonneg (by omega)]; omega
set_option maxHeartbeats 3200000 in
theorem walk (a0 a1 : Int) (w : World) (w0 : (Lit.int .i64 a0).wf = true) (w1 : (Lit.int .i64 a1).wf = true) :
    Calls Try.prog 7 #[.int .i64 a0, .int .i64 a1] w fun e w' => e = .returned (.bool true) ∧ Below w.heap.size w w' := by
  obtain ⟨p0, p1⟩ := i64_bounds w0
  obtain ⟨q0, q1⟩ := i64_bounds w1
  clear w0 w1
  obtain ⟨x, hx, hx', x0, x1⟩ := quarter a0 p0 p1
  obtain ⟨y, hy, hy', y0, y1⟩ := quarter a1 q0 q1
  obtain ⟨c, z0, z1, hc⟩ : ∃ c : Int, -9223372036854775807 ≤ c ∧ c ≤ 9223372036854775807 ∧ ((a0 < -9223372036854775807 ∧ c = -9223372036854775807) ∨ (a0 = -9223372036854775807 ∧ c = -9223372036854775807) ∨ (-9223372036854775807 < a0 ∧ a0 = c)) := by
    rcases Int.lt_trichotomy a0 (-9223372036854775807) with h | h | h
    · exact ⟨_, by decide, by decide, .inl ⟨h, rfl⟩⟩
    · exact ⟨_, by decide, by decide, .inr (.inl ⟨h, rfl⟩)⟩
    · exact ⟨a0, by omega, by omega, .inr (.inr ⟨h, rfl⟩)⟩
  have c1 := add_any x y (by omega) (by omega) (by omega) (by omega)
  rw [show addI x y = x + y from cutI_in _ (by omega) (by omega)] at c1
  have c2 := sub_any (x + y) y (by omega) (by omega) (by omega) (by omega)
  rw [show subI (x + y) y = x by unfold subI; rw [cutI_in _ (by omega) (by omega)]; omega] at c2
  have c3 := add_any y x (by omega) (by omega) (by omega) (by omega)
  rw [show addI y x = x + y by unfold addI; rw [cutI_in _ (by omega) (by omega)]; omega] at c3
  have c4 := sub_any 0 c (by decide) (by decide) (by omega) (by omega)
  rw [show subI 0 c = -c by unfold subI; rw [cutI_in _ (by omega) (by omega)]; omega] at c4
  have c5 := sub_any 0 (-c) (by decide) (by decide) (by omega) (by omega)
  rw [show subI 0 (-c) = c by unfold subI; rw [cutI_in _ (by omega) (by omega)]; omega] at c5
  have c6 := fmul_any c 4294967296 (by omega) (by omega) (by decide) (by decide)
  rw [show mulI c 4294967296 = c by unfold mulI; rw [Int.mul_ediv_cancel _ (by decide), cutI_in _ z0 z1]] at c6
  have c7 := fdiv_any c 4294967296 (by omega) (by omega) (by decide) (by decide)
  rw [show divI c 4294967296 = c by unfold divI; rw [if_neg (by decide), if_pos (by decide), Int.mul_ediv_cancel _ (by decide), cutI_in _ z0 z1]] at c7
  have c8 := fmul_any a0 a1 p0 p1 q0 q1
  have c9 := fmul_any a1 a0 q0 q1 p0 p1
  rw [show mulI a1 a0 = mulI a0 a1 by unfold mulI; rw [Int.mul_comm]] at c9
  generalize mulI a0 a1 = m at *
  obtain ⟨s, hs⟩ : ∃ s, x + y = s := ⟨_, rfl⟩
  obtain ⟨n, hn⟩ : ∃ n, -c = n := ⟨_, rfl⟩
  rw [hs] at c1 c2 c3
  rw [hn] at c4 c5
  clear hs hn
  by_cases e0 : 0 ≤ a0
  · have hx2 := hx' e0
    clear hx' 
    by_cases e1 : 0 ≤ a1
    · have hy2 := hy' e1
      clear hy'
      rcases hc with ⟨h, rfl⟩ | ⟨h, rfl⟩ | ⟨h, rfl⟩
      · omega
      · omega
      · go_enter Try.func7, Try.ntmps7
        go_wp2_with fail
        (with_reducible refine (c1 _).mono ?_)
        rintro e w' ⟨rfl, rfl⟩
        go_wp2_with fail
        (with_reducible refine (c2 _).mono ?_)
        rintro e w' ⟨rfl, rfl⟩
        go_wp2_with fail
        (with_reducible refine (c1 _).mono ?_)
        rintro e w' ⟨rfl, rfl⟩
        go_wp2_with fail
        (with_reducible refine (c3 _).mono ?_)
        rintro e w' ⟨rfl, rfl⟩
        go_wp2_with fail
        (with_reducible refine (c4 _).mono ?_)
        rintro e w' ⟨rfl, rfl⟩
        go_wp2_with fail
        (with_reducible refine (c5 _).mono ?_)
        rintro e w' ⟨rfl, rfl⟩
        go_wp2_with fail
        (with_reducible refine (c6 _).mono ?_)
        rintro e w7 ⟨rfl, hb⟩
        have hB := hb
        clear hb
        go_wp2_with fail
        (with_reducible refine (c7 _).mono ?_)
        rintro e w8 ⟨rfl, hb⟩
        replace hB := hB.trans (hb.mono hB.size)
        clear hb
        go_wp2_with fail
        (with_reducible refine (c8 _).mono ?_)
        rintro e w9 ⟨rfl, hb⟩
        replace hB := hB.trans (hb.mono hB.size)
        clear hb
        go_wp2_with fail
        (with_reducible refine (c9 _).mono ?_)
        rintro e w10 ⟨rfl, hb⟩
        replace hB := hB.trans (hb.mono hB.size)
        clear hb
        go_wp2_with fail
        (with_reducible refine (fshown_any _).mono ?_)
        rintro e w11 ⟨rfl, hb⟩
        replace hB := hB.trans (hb.mono hB.size)
        clear hb
        go_wp2_with fail
        go_ret
        exact ⟨rfl, hB⟩
    · clear hy'
      rcases hc with ⟨h, rfl⟩ | ⟨h, rfl⟩ | ⟨h, rfl⟩
      · omega
      · omega
      · go_enter Try.func7, Try.ntmps7
        go_wp2_with fail
        (with_reducible refine (c1 _).mono ?_)
        rintro e w' ⟨rfl, rfl⟩
        go_wp2_with fail
        (with_reducible refine (c2 _).mono ?_)
        rintro e w' ⟨rfl, rfl⟩
        go_wp2_with fail
        (with_reducible refine (c1 _).mono ?_)
        rintro e w' ⟨rfl, rfl⟩
        go_wp2_with fail
        (with_reducible refine (c3 _).mono ?_)
        rintro e w' ⟨rfl, rfl⟩
        go_wp2_with fail
        (with_reducible refine (c4 _).mono ?_)
        rintro e w' ⟨rfl, rfl⟩
        go_wp2_with fail
        (with_reducible refine (c5 _).mono ?_)
        rintro e w' ⟨rfl, rfl⟩
        go_wp2_with fail
        (with_reducible refine (c6 _).mono ?_)
        rintro e w7 ⟨rfl, hb⟩
        have hB := hb
        clear hb
        go_wp2_with fail
        (with_reducible refine (c7 _).mono ?_)
        rintro e w8 ⟨rfl, hb⟩
        replace hB := hB.trans (hb.mono hB.size)
        clear hb
        go_wp2_with fail
        (with_reducible refine (c8 _).mono ?_)
        rintro e w9 ⟨rfl, hb⟩
        replace hB := hB.trans (hb.mono hB.size)
        clear hb
        go_wp2_with fail
        (with_reducible refine (c9 _).mono ?_)
        rintro e w10 ⟨rfl, hb⟩
        replace hB := hB.trans (hb.mono hB.size)
        clear hb
        go_wp2_with fail
        (with_reducible refine (fshown_any _).mono ?_)
        rintro e w11 ⟨rfl, hb⟩
        replace hB := hB.trans (hb.mono hB.size)
        clear hb
        go_wp2_with fail
        go_ret
        exact ⟨rfl, hB⟩
  · clear hx'
    by_cases e1 : 0 ≤ a1
    · have hy2 := hy' e1
      clear hy'
      rcases hc with ⟨h, rfl⟩ | ⟨h, rfl⟩ | ⟨h, rfl⟩
      · go_enter Try.func7, Try.ntmps7
        go_wp2_with fail
        (with_reducible refine (c1 _).mono ?_)
        rintro e w' ⟨rfl, rfl⟩
        go_wp2_with fail
        (with_reducible refine (c2 _).mono ?_)
        rintro e w' ⟨rfl, rfl⟩
        go_wp2_with fail
        (with_reducible refine (c1 _).mono ?_)
        rintro e w' ⟨rfl, rfl⟩
        go_wp2_with fail
        (with_reducible refine (c3 _).mono ?_)
        rintro e w' ⟨rfl, rfl⟩
        go_wp2_with fail
        (with_reducible refine (c4 _).mono ?_)
        rintro e w' ⟨rfl, rfl⟩
        go_wp2_with fail
        (with_reducible refine (c5 _).mono ?_)
        rintro e w' ⟨rfl, rfl⟩
        go_wp2_with fail
        (with_reducible refine (c6 _).mono ?_)
        rintro e w7 ⟨rfl, hb⟩
        have hB := hb
        clear hb
        go_wp2_with fail
        (with_reducible refine (c7 _).mono ?_)
        rintro e w8 ⟨rfl, hb⟩
        replace hB := hB.trans (hb.mono hB.size)
        clear hb
        go_wp2_with fail
        (with_reducible refine (c8 _).mono ?_)
        rintro e w9 ⟨rfl, hb⟩
        replace hB := hB.trans (hb.mono hB.size)
        clear hb
        go_wp2_with fail
        (with_reducible refine (c9 _).mono ?_)
        rintro e w10 ⟨rfl, hb⟩
        replace hB := hB.trans (hb.mono hB.size)
        clear hb
        go_wp2_with fail
        (with_reducible refine (fshown_any _).mono ?_)
        rintro e w11 ⟨rfl, hb⟩
        replace hB := hB.trans (hb.mono hB.size)
        clear hb
        go_wp2_with fail
        go_ret
        exact ⟨rfl, hB⟩
      · subst h
        go_enter Try.func7, Try.ntmps7
        go_wp2_with fail
        (with_reducible refine (c1 _).mono ?_)
        rintro e w' ⟨rfl, rfl⟩
        go_wp2_with fail
        (with_reducible refine (c2 _).mono ?_)
        rintro e w' ⟨rfl, rfl⟩
        go_wp2_with fail
        (with_reducible refine (c1 _).mono ?_)
        rintro e w' ⟨rfl, rfl⟩
        go_wp2_with fail
        (with_reducible refine (c3 _).mono ?_)
        rintro e w' ⟨rfl, rfl⟩
        go_wp2_with fail
        (with_reducible refine (c4 _).mono ?_)
        rintro e w' ⟨rfl, rfl⟩
        go_wp2_with fail
        (with_reducible refine (c5 _).mono ?_)
        rintro e w' ⟨rfl, rfl⟩
        go_wp2_with fail
        (with_reducible refine (c6 _).mono ?_)
        rintro e w7 ⟨rfl, hb⟩
        have hB := hb
        clear hb
        go_wp2_with fail
        (with_reducible refine (c7 _).mono ?_)
        rintro e w8 ⟨rfl, hb⟩
        replace hB := hB.trans (hb.mono hB.size)
        clear hb
        go_wp2_with fail
        (with_reducible refine (c8 _).mono ?_)
        rintro e w9 ⟨rfl, hb⟩
        replace hB := hB.trans (hb.mono hB.size)
        clear hb
        go_wp2_with fail
        (with_reducible refine (c9 _).mono ?_)
        rintro e w10 ⟨rfl, hb⟩
        replace hB := hB.trans (hb.mono hB.size)
        clear hb
        go_wp2_with fail
        (with_reducible refine (fshown_any _).mono ?_)
        rintro e w11 ⟨rfl, hb⟩
        replace hB := hB.trans (hb.mono hB.size)
        clear hb
        go_wp2_with fail
        go_ret
        exact ⟨rfl, hB⟩
      · go_enter Try.func7, Try.ntmps7
        go_wp2_with fail
        (with_reducible refine (c1 _).mono ?_)
        rintro e w' ⟨rfl, rfl⟩
        go_wp2_with fail
        (with_reducible refine (c2 _).mono ?_)
        rintro e w' ⟨rfl, rfl⟩
        go_wp2_with fail
        (with_reducible refine (c1 _).mono ?_)
        rintro e w' ⟨rfl, rfl⟩
        go_wp2_with fail
        (with_reducible refine (c3 _).mono ?_)
        rintro e w' ⟨rfl, rfl⟩
        go_wp2_with fail
        (with_reducible refine (c4 _).mono ?_)
        rintro e w' ⟨rfl, rfl⟩
        go_wp2_with fail
        (with_reducible refine (c5 _).mono ?_)
        rintro e w' ⟨rfl, rfl⟩
        go_wp2_with fail
        (with_reducible refine (c6 _).mono ?_)
        rintro e w7 ⟨rfl, hb⟩
        have hB := hb
        clear hb
        go_wp2_with fail
        (with_reducible refine (c7 _).mono ?_)
        rintro e w8 ⟨rfl, hb⟩
        replace hB := hB.trans (hb.mono hB.size)
        clear hb
        go_wp2_with fail
        (with_reducible refine (c8 _).mono ?_)
        rintro e w9 ⟨rfl, hb⟩
        replace hB := hB.trans (hb.mono hB.size)
        clear hb
        go_wp2_with fail
        (with_reducible refine (c9 _).mono ?_)
        rintro e w10 ⟨rfl, hb⟩
        replace hB := hB.trans (hb.mono hB.size)
        clear hb
        go_wp2_with fail
        (with_reducible refine (fshown_any _).mono ?_)
        rintro e w11 ⟨rfl, hb⟩
        replace hB := hB.trans (hb.mono hB.size)
        clear hb
        go_wp2_with fail
        go_ret
        exact ⟨rfl, hB⟩
    · clear hy'
      rcases hc with ⟨h, rfl⟩ | ⟨h, rfl⟩ | ⟨h, rfl⟩
      · go_enter Try.func7, Try.ntmps7
        go_wp2_with fail
        (with_reducible refine (c1 _).mono ?_)
        rintro e w' ⟨rfl, rfl⟩
        go_wp2_with fail
        (with_reducible refine (c2 _).mono ?_)
        rintro e w' ⟨rfl, rfl⟩
        go_wp2_with fail
        (with_reducible refine (c1 _).mono ?_)
        rintro e w' ⟨rfl, rfl⟩
        go_wp2_with fail
        (with_reducible refine (c3 _).mono ?_)
        rintro e w' ⟨rfl, rfl⟩
        go_wp2_with fail
        (with_reducible refine (c4 _).mono ?_)
        rintro e w' ⟨rfl, rfl⟩
        go_wp2_with fail
        (with_reducible refine (c5 _).mono ?_)
        rintro e w' ⟨rfl, rfl⟩
        go_wp2_with fail
        (with_reducible refine (c6 _).mono ?_)
        rintro e w7 ⟨rfl, hb⟩
        have hB := hb
        clear hb
        go_wp2_with fail
        (with_reducible refine (c7 _).mono ?_)
        rintro e w8 ⟨rfl, hb⟩
        replace hB := hB.trans (hb.mono hB.size)
        clear hb
        go_wp2_with fail
        (with_reducible refine (c8 _).mono ?_)
        rintro e w9 ⟨rfl, hb⟩
        replace hB := hB.trans (hb.mono hB.size)
        clear hb
        go_wp2_with fail
        (with_reducible refine (c9 _).mono ?_)
        rintro e w10 ⟨rfl, hb⟩
        replace hB := hB.trans (hb.mono hB.size)
        clear hb
        go_wp2_with fail
        (with_reducible refine (fshown_any _).mono ?_)
        rintro e w11 ⟨rfl, hb⟩
        replace hB := hB.trans (hb.mono hB.size)
        clear hb
        go_wp2_with fail
        go_ret
        exact ⟨rfl, hB⟩
      · subst h
        go_enter Try.func7, Try.ntmps7
        go_wp2_with fail
        (with_reducible refine (c1 _).mono ?_)
        rintro e w' ⟨rfl, rfl⟩
        go_wp2_with fail
        (with_reducible refine (c2 _).mono ?_)
        rintro e w' ⟨rfl, rfl⟩
        go_wp2_with fail
        (with_reducible refine (c1 _).mono ?_)
        rintro e w' ⟨rfl, rfl⟩
        go_wp2_with fail
        (with_reducible refine (c3 _).mono ?_)
        rintro e w' ⟨rfl, rfl⟩
        go_wp2_with fail
        (with_reducible refine (c4 _).mono ?_)
        rintro e w' ⟨rfl, rfl⟩
        go_wp2_with fail
        (with_reducible refine (c5 _).mono ?_)
        rintro e w' ⟨rfl, rfl⟩
        go_wp2_with fail
        (with_reducible refine (c6 _).mono ?_)
        rintro e w7 ⟨rfl, hb⟩
        have hB := hb
        clear hb
        go_wp2_with fail
        (with_reducible refine (c7 _).mono ?_)
        rintro e w8 ⟨rfl, hb⟩
        replace hB := hB.trans (hb.mono hB.size)
        clear hb
        go_wp2_with fail
        (with_reducible refine (c8 _).mono ?_)
        rintro e w9 ⟨rfl, hb⟩
        replace hB := hB.trans (hb.mono hB.size)
        clear hb
        go_wp2_with fail
        (with_reducible refine (c9 _).mono ?_)
        rintro e w10 ⟨rfl, hb⟩
        replace hB := hB.trans (hb.mono hB.size)
        clear hb
        go_wp2_with fail
        (with_reducible refine (fshown_any _).mono ?_)
        rintro e w11 ⟨rfl, hb⟩
        replace hB := hB.trans (hb.mono hB.size)
        clear hb
        go_wp2_with fail
        go_ret
        exact ⟨rfl, hB⟩
      · go_enter Try.func7, Try.ntmps7
        go_wp2_with fail
        (with_reducible refine (c1 _).mono ?_)
        rintro e w' ⟨rfl, rfl⟩
        go_wp2_with fail
        (with_reducible refine (c2 _).mono ?_)
        rintro e w' ⟨rfl, rfl⟩
        go_wp2_with fail
        (with_reducible refine (c1 _).mono ?_)
        rintro e w' ⟨rfl, rfl⟩
        go_wp2_with fail
        (with_reducible refine (c3 _).mono ?_)
        rintro e w' ⟨rfl, rfl⟩
        go_wp2_with fail
        (with_reducible refine (c4 _).mono ?_)
        rintro e w' ⟨rfl, rfl⟩
        go_wp2_with fail
        (with_reducible refine (c5 _).mono ?_)
        rintro e w' ⟨rfl, rfl⟩
        go_wp2_with fail
        (with_reducible refine (c6 _).mono ?_)
        rintro e w7 ⟨rfl, hb⟩
        have hB := hb
        clear hb
        go_wp2_with fail
        (with_reducible refine (c7 _).mono ?_)
        rintro e w8 ⟨rfl, hb⟩
        replace hB := hB.trans (hb.mono hB.size)
        clear hb
        go_wp2_with fail
        (with_reducible refine (c8 _).mono ?_)
        rintro e w9 ⟨rfl, hb⟩
        replace hB := hB.trans (hb.mono hB.size)
        clear hb
        go_wp2_with fail
        (with_reducible refine (c9 _).mono ?_)
        rintro e w10 ⟨rfl, hb⟩
        replace hB := hB.trans (hb.mono hB.size)
        clear hb
        go_wp2_with fail
        (with_reducible refine (fshown_any _).mono ?_)
        rintro e w11 ⟨rfl, hb⟩
        replace hB := hB.trans (hb.mono hB.size)
        clear hb
        go_wp2_with fail
        go_ret
        exact ⟨rfl, hB⟩
set_option maxRecDepth 100000 in
theorem lifted (os : Os) (started : os.Started) (H : Type) (enc : TypeId × Value → H) :
    ReturnsInHanded {} Try.checked os 7 .any (Rows.fixBackSpec.pre6 enc Try.prog Try.f7 Rows.fixBackRow.domain false) (Rows.fixBackSpec.post enc Try.prog Try.f7 false true false false) := by
  refine returnsInHanded_of_change (C := Try.checked) own started (by kernel_rfl) Try.func7
    (ChangeSpec.witness6 (enc := enc) (C := Try.checked) false ⟨#[], #[.int .i64 0, .int .i64 0], []⟩ 8 (by kernel_rfl) (by kernel_rfl) (by kernel_rfl) (by kernel_rfl)) ?_
  intro W base args ds gs before hval0 hW hcnd _
  have hval : ∀ (j : Nat) t v, Try.f7.params[j]? = some t → args[j]? = some v → Value.okWide Try.prog W .any base t v := hval0
  have hW' := hW
  obtain ⟨p, q, hA0, hV, rfl, hfz, hnd⟩ := hW
  have hA : DataW.TrodAll enc Try.prog W 0 (fun _ => true) true Try.f7.params.toList args.toList ds p := hA0
  rw [Try.params7] at hA hval
  obtain ⟨v0, vs0, d0, ds0, p0, q0, hargs, rfl, rfl, h0, r0⟩ := trodAll_cons hA
  obtain ⟨v1, vs1, d1, ds1, p1, q1, rfl, rfl, rfl, h1, r1⟩ := trodAll_cons r0
  obtain ⟨rfl, rfl, rfl⟩ := trodAll_nil r1
  obtain rfl : args = #[v0, v1] := by cases args; simp_all
  obtain ⟨rfl, rfl⟩ := trodVars_none hV
  obtain ⟨a0, rfl, rfl, rfl, w0⟩ := open_int Try.underlying2 (hval 0 2 v0 rfl rfl) h0
  obtain ⟨a1, rfl, rfl, rfl, w1⟩ := open_int Try.underlying2 (hval 1 2 v1 rfl rfl) h1
  clear hA0 hval0
  refine (walk a0 a1 W w0 w1).mono fun e W' ⟨he, bel⟩ => ?_
  subst he
  exact ⟨_, rfl, _, _, _, [], _, [], hW', trodAll_mk1 (shut_bool Try.underlying4 _), (trodAll_cons_mk (shut_int Try.underlying2 w0) (trodAll_cons_mk (shut_int Try.underlying2 w1) trodAll_mk0)), rfl, bel.frame _, fun h => by cases h⟩

theorem over : Rows.fixBackRow.holds Try.pinned (OpenSpec.ofChange Rows.fixBackSpec) :=
  OpenClaim.holds_of_wide 7 Try.f7 rfl rfl rfl rfl rfl rfl rfl ⟨rfl, rfl, rfl, rfl, rfl⟩ rfl rfl rfl rfl rfl (by kernel_rfl) Try.func7 (by kernel_rfl)
    (of_decide_eq_true (by kernel_rfl)) (by unfold Func.isWrapper; first | (rw [if_pos (by decide +kernel)]; kernel_rfl) | (rw [if_neg (by decide +kernel)]; exact ⟨rfl, rfl⟩))
    (fun os started H enc _ => lifted os started H enc)

theorem proved : Rows.FixBackSaid := over
end Go.Proofs.Ytlnoclffgmcgoaa.FixBack
