/- DriftPacks: for every two numbers and frequencies a slot's bytes are sixteen, a mark first; two have the same ones only if their numbers and frequencies are the same; both are told as they were packed. No condition. -/
import Derived.Test.YtcfdggeoecdnnaaDrK
import Derived.Test.YtcfdggeoecdnnaaHdI
import Derived.Test.YtcfdggeoecdnnaaFixZ
import Derived.Test.YtcfdggeoecdnnaaRowS
import Derived.WalkKit
import Derived.WalkSpells
import Derived.WalkLawsBesides
import Derived.Lib.Hide
import Derived.Handy
import Derived.ProofKit
import Derived.OpenShut
import Derived.ShutString
import Derived.ChangeOld
import Derived.Below
namespace Go.Proofs.Ytcfdggeoecdnnaa.DriftPacks
open Go.Proofs.Ytcfdggeoecdnnaa.W
open Go.ChangeShapes Go.WideShapes Go.ChangeAt Go.RowKit
open Go.ChangeMaps (open_string shut_string)
set_option linter.unusedVariables false
theorem own : ownKnob Try.prog.godebug = none := by kernel_rfl
theorem laidOut : laidOutB Try.prog = true := by kernel_rfl
open Go.Sort
set_option linter.unusedSimpArgs false
set_option maxRecDepth 100000 in
set_option maxHeartbeats 12800000 in
theorem walk (a b f g : Int) (w : World) (w0 : (Lit.int .u32 a).wf = true) (w1 : (Lit.int .u32 b).wf = true) (w2 : (Lit.int .i64 f).wf = true) (w3 : (Lit.int .i64 g).wf = true) :
    Calls Try.prog 6 #[.int .u32 a, .int .u32 b, .int .i64 f, .int .i64 g] w fun e w' => e = .returned (.bool true) ∧ Below w.heap.size w w' := by
  obtain ⟨a0, a1⟩ := u32_bounds w0
  obtain ⟨b0, b1⟩ := u32_bounds w1
  obtain ⟨f0, f1⟩ := i64_bounds w2
  obtain ⟨g0, g1⟩ := i64_bounds w3
  clear w0 w1 w2 w3
  have cz := shown9_any
  have y1 := kpack_any a f a0 a1 f0 f1
  have y2 := kpack_any b g b0 b1 g0 g1
  have lp := pack_length a f
  have lq := pack_length b g
  have hz : (bs (pack a f)).size = 16 := by rw [bs_size, lp]
  have hz2 : (bs (pack b g)).size = 16 := by rw [bs_size, lq]
  have hcat : bs (pack a f) ++ bs (pack b g) = bs (pack a f ++ pack b g) := bs_append _ _
  have hs : (newD (pack a f ++ pack b g)).s = pack a f ++ pack b g := by rw [newD_same (by simp [lp, lq])]
  have hA : slA (pack a f ++ pack b g) = ⟨true, a, f⟩ := by unfold slA; rw [List.take_left' lp, sl_pack a f a0 a1 f0 f1]
  have hB : slB (pack a f ++ pack b g) = ⟨true, b, g⟩ := by unfold slB; rw [List.drop_left' lp, List.take_of_length_le (by omega), sl_pack b g b0 b1 g0 g1]
  have e0 : byteAt (pack a f) 0 = 1 := rfl
  have e15 : byteAt (pack a f) 15 = 0 := by
    have : (pack a f)[15]? = some 0 := by
      unfold pack
      rw [List.getElem?_cons_succ, List.getElem?_append_right (by simp [body_length, sums])]
      simp [body_length, sums]
    unfold byteAt
    simp [List.getD_eq_getElem?_getD, this]
  have i0 : ∀ w : World, (Instr.index 9 (.string (bs (pack a f))) (.int .i64 0)).run Try.prog w = .ok (.int .u8 1) w := fun w => by
    have := index_at (pack a f) 0 (by omega) w
    rw [e0] at this
    exact this
  have i15 : ∀ w : World, (Instr.index 9 (.string (bs (pack a f))) (.int .i64 15)).run Try.prog w = .ok (.int .u8 0) w := fun w => by
    have := index_at (pack a f) 15 (by omega) w
    rw [e15] at this
    exact this
  have hinj := pack_inj a0 a1 b0 b1 f0 f1 g0 g1
  have heq : ((bs (pack a f)).toList == (bs (pack b g)).toList) = decide (a = b ∧ f = g) := by
    rw [bs_list, bs_list]
    by_cases e : a = b ∧ f = g
    · rw [decide_eq_true e]
      exact beq_iff_eq.2 (hinj.2 e)
    · rw [decide_eq_false e]
      exact beq_eq_false_iff_ne.2 (fun h => e (hinj.1 h))
  have y3 := fun w' (h : Below w.heap.size w w') => dnew_any (pack a f ++ pack b g) (by simp [lp, lq]) w w' h
  have y4 := fun w' p (h : OneD w w' p (newD (pack a f ++ pack b g))) => dslots_any h
  rw [hs, hA, hB] at y4
  clear hs hA hB hinj lp lq e0 e15
  generalize bs (pack a f) = P at *
  generalize bs (pack b g) = Q at *
  rw [← hcat] at y3
  generalize newD (pack a f ++ pack b g) = D at *
  clear hcat
  go_enter Try.func6, Try.ntmps6
  go_wp2_with fail
  (with_reducible refine (y1 _).mono ?_)
  rintro e w1 ⟨rfl, hB1⟩
  go_wp2_with fail
  (with_reducible refine (y2 _).mono ?_)
  rintro e w2 ⟨rfl, hB2⟩
  have hB2 := hB1.trans (hB2.mono hB1.size)
  go_wp2_with fail
  (with_reducible refine (y3 _ hB2).mono ?_)
  rintro e w3 ⟨p, rfl, h3, _⟩
  go_wp2_with fail
  (with_reducible refine (y4 _ _ h3).mono ?_)
  rintro e w4 ⟨rfl, hB4⟩
  have h4 := (h3.kept hB4).below
  by_cases e1 : a = b
  · by_cases e2 : f = g
    · have hd : decide (a = b ∧ f = g) = true := decide_eq_true ⟨e1, e2⟩
      rw [hd] at heq
      subst e1 e2
      go_wp2_with fail
      (with_reducible refine (cz _).mono ?_)
      rintro e w5 ⟨rfl, hB5⟩
      have hz5 := h4.size
      go_wp2_with fail
      go_ret
      exact ⟨rfl, (Below.alloc h4 (by omega) _).trans (hB5.mono (by rw [World.size_alloc]; omega))⟩
    · have hd : decide (a = b ∧ f = g) = false := decide_eq_false (fun h => e2 h.2)
      rw [hd] at heq
      subst e1
      have hfg : (f == g) = false := beq_eq_false_iff_ne.2 e2
      go_wp2_with fail
      (with_reducible refine (cz _).mono ?_)
      rintro e w5 ⟨rfl, hB5⟩
      have hz5 := h4.size
      go_wp2_with fail
      go_ret
      exact ⟨rfl, (Below.alloc h4 (by omega) _).trans (hB5.mono (by rw [World.size_alloc]; omega))⟩
  · have hd : decide (a = b ∧ f = g) = false := decide_eq_false (fun h => e1 h.1)
    rw [hd] at heq
    go_wp2_with fail
    (with_reducible refine (cz _).mono ?_)
    rintro e w5 ⟨rfl, hB5⟩
    have hz5 := h4.size
    go_wp2_with fail
    go_ret
    exact ⟨rfl, (Below.alloc h4 (by omega) _).trans (hB5.mono (by rw [World.size_alloc]; omega))⟩
set_option maxRecDepth 100000 in
theorem lifted (os : Os) (started : os.Started) (H : Type) (enc : TypeId × Value → H) :
    ReturnsInHanded {} Try.checked os 6 .any (Rows.driftPacksSpec.pre6 enc Try.prog Try.f6 Rows.driftPacksRow.domain false) (Rows.driftPacksSpec.post enc Try.prog Try.f6 false true false false) := by
  refine returnsInHanded_of_change (C := Try.checked) own started (by kernel_rfl) Try.func6
    (ChangeSpec.witness6 (enc := enc) (C := Try.checked) false ⟨#[], #[.int .u32 0, .int .u32 0, .int .i64 0, .int .i64 0], []⟩ 8 (by kernel_rfl) (by kernel_rfl) (by kernel_rfl) (by kernel_rfl)) ?_
  intro W base args ds gs before hval0 hW hcnd _
  have hval : ∀ (j : Nat) t v, Try.f6.params[j]? = some t → args[j]? = some v → Value.okWide Try.prog W .any base t v := hval0
  have hW' := hW
  obtain ⟨p, q, hA0, hV, rfl, hfz, hnd⟩ := hW
  have hA : DataW.TrodAll enc Try.prog W 0 (fun _ => true) true Try.f6.params.toList args.toList ds p := hA0
  rw [Try.params6] at hA hval
  obtain ⟨v0, vs0, d0, ds0, p0, q0, hargs, rfl, rfl, h0, r0⟩ := trodAll_cons hA
  obtain ⟨v1, vs1, d1, ds1, p1, q1, rfl, rfl, rfl, h1, r1⟩ := trodAll_cons r0
  obtain ⟨v2, vs2, d2, ds2, p2, q2, rfl, rfl, rfl, h2, r2⟩ := trodAll_cons r1
  obtain ⟨v3, vs3, d3, ds3, p3, q3, rfl, rfl, rfl, h3, r3⟩ := trodAll_cons r2
  obtain ⟨rfl, rfl, rfl⟩ := trodAll_nil r3
  obtain rfl : args = #[v0, v1, v2, v3] := by cases args; simp_all
  obtain ⟨rfl, rfl⟩ := trodVars_none hV
  obtain ⟨a0, rfl, rfl, rfl, w0⟩ := open_int Try.underlying33 (hval 0 33 v0 rfl rfl) h0
  obtain ⟨a1, rfl, rfl, rfl, w1⟩ := open_int Try.underlying33 (hval 1 33 v1 rfl rfl) h1
  obtain ⟨a2, rfl, rfl, rfl, w2⟩ := open_int Try.underlying2 (hval 2 2 v2 rfl rfl) h2
  obtain ⟨a3, rfl, rfl, rfl, w3⟩ := open_int Try.underlying2 (hval 3 2 v3 rfl rfl) h3
  clear hA0 hval0
  refine (walk a0 a1 a2 a3 W w0 w1 w2 w3).mono fun e W' ⟨he, bel⟩ => ?_
  subst he
  exact ⟨_, rfl, _, _, _, [], _, [], hW', trodAll_mk1 (shut_bool Try.underlying4 _), (trodAll_cons_mk (shut_int Try.underlying33 w0) (trodAll_cons_mk (shut_int Try.underlying33 w1) (trodAll_cons_mk (shut_int Try.underlying2 w2) (trodAll_cons_mk (shut_int Try.underlying2 w3) trodAll_mk0)))), rfl, bel.frame _, fun h => by cases h⟩

theorem over : Rows.driftPacksRow.holds Try.pinned (OpenSpec.ofChange Rows.driftPacksSpec) :=
  OpenClaim.holds_of_wide 6 Try.f6 rfl rfl rfl rfl rfl rfl rfl ⟨rfl, rfl, rfl, rfl, rfl⟩ rfl rfl rfl rfl rfl (by kernel_rfl) Try.func6 (by kernel_rfl)
    (of_decide_eq_true (by kernel_rfl)) (by unfold Func.isWrapper; first | (rw [if_pos (by decide +kernel)]; kernel_rfl) | (rw [if_neg (by decide +kernel)]; exact ⟨rfl, rfl⟩))
    (fun os started H enc _ => lifted os started H enc)

theorem proved : Rows.DriftPacksSaid := over
end Go.Proofs.Ytcfdggeoecdnnaa.DriftPacks
