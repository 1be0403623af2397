/- ExtendJoins: for every list of fields and every text, within the document's bound, what they come to is what the document's own answer comes to, or its error; it is walked to them. (What is beyond the bound is let go by the statement itself.) No condition. -/
import Derived.Test.YtdcpohbgbnbgmaaEdY
import Derived.Test.YtdcpohbgbnbgmaaEdZ
import Derived.WalkKit
import Derived.WalkSpells
import Derived.WalkLawsBesides
import Derived.Lib.Hide
import Derived.Handy
import Derived.ProofKit
import Derived.OpenShut
import Derived.ShutString
import Derived.ChangeOld
import Derived.Below
namespace Go.Proofs.Ytdcpohbgbnbgmaa.ExtendJoins
open Go.Proofs.Ytdcpohbgbnbgmaa.W
open Go.ChangeShapes Go.WideShapes Go.ChangeAt Go.RowKit
open Go.ChangeMaps (open_string shut_string)
set_option linter.unusedVariables false
theorem own : ownKnob Try.prog.godebug = none := by kernel_rfl
theorem laidOut : laidOutB Try.prog = true := by kernel_rfl
set_option linter.unusedSimpArgs false
theorem walk_of_join {l : List W.Fd} {m : List UInt8} (h : jnOk l m = true) : walkL (fdJoin l ++ m) = some (l, m) := by
  unfold jnOk at h
  simp only [Bool.and_eq_true] at h
  obtain ⟨_, _, h⟩ := h
  cases hw : walkL (fdJoin l ++ m) with
  | none => rw [hw] at h; cases h
  | some p =>
    rw [hw] at h
    simp only [Bool.and_eq_true] at h
    obtain ⟨h1, h2⟩ := h
    have e1 : p.2 = m := by simpa using h1
    have e2 := (fdSame_iff p.1 l).1 h2
    rw [← e1, ← e2]
set_option maxHeartbeats 3200000 in
theorem walk (v0 : Value) (l : List W.Fd) (a1 : ByteArray) (w : World) (iv : FdIn w v0 l) (ht : FdTyped l) (hb : ∀ f ∈ l, f.body.length ≤ maxLen) (hl : l.length ≤ maxLen) (w1 : a1.size ≤ maxLen) :
    Calls Try.prog 4 #[v0, .string a1] w fun e w' => e = .returned (.bool true) ∧ Below w.heap.size w w' := by
  obtain ⟨m, rfl⟩ : ∃ m, a1 = bs m := ⟨a1.data.toList, (bs_data a1).symm⟩
  have cz := xshown_any
  have hml : m.length ≤ maxLen := by rw [← bs_size]; exact w1
  clear w1
  unfold maxLen at hl hb hml
  have ch := heavy_any l (by omega) (fun f hf => by have := hb f hf; omega) v0 w iv
  obtain ⟨x0, p0, rfl⟩ := iv.slice
  by_cases hh : 4096 < fdHeavy l
  · rw [decide_eq_true hh] at ch
    clear iv
    go_enter Try.func4, Try.ntmps4
    go_wp2_with fail
    (with_reducible refine ch.mono ?_)
    rintro e w' ⟨rfl, rfl⟩
    go_wp2_with fail
    (with_reducible refine (cz _).mono ?_)
    rintro e w2 ⟨rfl, hB⟩
    go_wp2_with fail
    go_ret
    exact ⟨rfl, hB⟩
  · rw [decide_eq_false hh] at ch
    obtain ⟨h1, h2⟩ := fdHeavy_join l (by omega)
    by_cases hm : 100 < m.length
    · have hmi : 100 < (m.length : Int) := by omega
      clear iv
      go_enter Try.func4, Try.ntmps4
      go_wp2_with fail
      (with_reducible refine ch.mono ?_)
      rintro e w' ⟨rfl, rfl⟩
      go_wp2_with fail
      (with_reducible refine (cz _).mono ?_)
      rintro e w2 ⟨rfl, hB⟩
      go_wp2_with fail
      go_ret
      exact ⟨rfl, hB⟩
    · have hmi : ¬ 100 < (m.length : Int) := by omega
      have c1 := ejoin_any l m ht (by omega) (by omega)
      have c2 := rjoin_any l m ht (by omega) (by omega)
      cases hj : jnOk l m
      · obtain ⟨e1, e2⟩ := jn_no hj
        rw [e1, e2] at c1 c2
        clear e1 e2 hj
        go_enter Try.func4, Try.ntmps4
        go_wp2_with fail
        (with_reducible refine ch.mono ?_)
        rintro e w' ⟨rfl, rfl⟩
        go_wp2_with fail
        (with_reducible refine (cz _).mono ?_)
        rintro e w2 ⟨rfl, hB⟩
        replace iv := iv.kept hB
        go_wp2_with fail
        (with_reducible refine (c1 _ _ iv).mono ?_)
        rintro e w3 ⟨rfl, hb3⟩
        replace iv := iv.kept hb3
        replace hB := hB.trans (hb3.mono hB.size)
        clear hb3
        go_wp2_with fail
        (with_reducible refine (theirs_any _ (by omega) _ _ iv).mono ?_)
        rintro e w4 ⟨v4, rfl, ho4, hb4⟩
        have i4 := FdIn.own ho4
        replace hB := hB.trans (hb4.mono hB.size)
        clear ho4 hb4
        go_wp2_with fail
        (with_reducible refine (c2 _ _ i4).mono ?_)
        rintro e w5 ⟨rfl, hb5⟩
        replace hB := hB.trans (hb5.mono hB.size)
        go_wp2_with fail
        go_ret
        exact ⟨rfl, hB⟩
      · obtain ⟨e1, e2⟩ := jn_yes hj
        have hw := walk_of_join hj
        obtain ⟨f1, f2, f3⟩ := wk_yes hw
        have c3 := ewalk_any (fdJoin l ++ m) (by rw [List.length_append]; omega)
        rw [f1, f2, f3] at c3
        rw [e1, e2] at c1 c2
        have hsm : fdSame l l = true := (fdSame_iff l l).2 rfl
        clear e1 e2 hj f1 f2 f3 hw
        generalize fdJoin l ++ m = s at *
        go_enter Try.func4, Try.ntmps4
        go_wp2_with fail
        (with_reducible refine ch.mono ?_)
        rintro e w' ⟨rfl, rfl⟩
        go_wp2_with fail
        (with_reducible refine (cz _).mono ?_)
        rintro e w2 ⟨rfl, hB⟩
        replace iv := iv.kept hB
        go_wp2_with fail
        (with_reducible refine (c1 _ _ iv).mono ?_)
        rintro e w3 ⟨rfl, hb3⟩
        replace iv := iv.kept hb3
        replace hB := hB.trans (hb3.mono hB.size)
        clear hb3
        go_wp2_with fail
        (with_reducible refine (theirs_any _ (by omega) _ _ iv).mono ?_)
        rintro e w4 ⟨v4, rfl, ho4, hb4⟩
        have i4 := FdIn.own ho4
        replace iv := iv.kept hb4
        replace hB := hB.trans (hb4.mono hB.size)
        clear ho4 hb4
        go_wp2_with fail
        (with_reducible refine (c2 _ _ i4).mono ?_)
        rintro e w5 ⟨rfl, hb5⟩
        replace iv := iv.kept hb5
        replace hB := hB.trans (hb5.mono hB.size)
        clear i4 hb5
        go_wp2_with fail
        (with_reducible refine (c3 _).mono ?_)
        rintro e w6 ⟨v6, rfl, ho6, hb6⟩
        have i6 := FdIn.own ho6
        obtain ⟨x6, p6, rfl⟩ := i6.slice
        replace iv := iv.kept hb6
        replace hB := hB.trans (hb6.mono hB.size)
        clear ho6 hb6
        go_wp2_with fail
        (with_reducible refine (theirs_any _ (by omega) _ _ i6).mono ?_)
        rintro e w7 ⟨v7, rfl, ho7, hb7⟩
        have i7 := FdIn.own ho7
        replace iv := iv.kept hb7
        replace hB := hB.trans (hb7.mono hB.size)
        clear ho7 hb7
        go_wp2_with fail
        (with_reducible refine (theirs_any _ (by omega) _ _ iv).mono ?_)
        rintro e w8 ⟨v8, rfl, ho8, hb8⟩
        have i8 := FdIn.own ho8
        replace i7 := i7.kept hb8
        replace hB := hB.trans (hb8.mono hB.size)
        clear ho8 hb8
        go_wp2_with fail
        (with_reducible refine (rsame_any _ _ (by omega) (by omega) _ _ _ i7 i8).mono ?_)
        rintro e w9 ⟨rfl, q, rfl⟩
        rw [hsm]
        replace hB := below_drewN hB q
        go_wp2_with fail
        go_ret
        exact ⟨rfl, hB⟩
set_option maxRecDepth 100000 in
theorem lifted (os : Os) (started : os.Started) (H : Type) (enc : TypeId × Value → H) :
    ReturnsInHanded {} Try.checked os 4 .any (Rows.extendJoinsSpec.pre6 enc Try.prog Try.f4 Rows.extendJoinsRow.domain false) (Rows.extendJoinsSpec.post enc Try.prog Try.f4 false true false false) := by
  refine returnsInHanded_of_change (C := Try.checked) own started (by kernel_rfl) Try.func4
    (ChangeSpec.witness6 (enc := enc) (C := Try.checked) false ⟨#[], #[.slice none 0 0, .string ByteArray.empty], []⟩ 8 (by kernel_rfl) (by kernel_rfl) (by kernel_rfl) (by kernel_rfl)) ?_
  intro W base args ds gs before hval0 hW hcnd _
  have hval : ∀ (j : Nat) t v, Try.f4.params[j]? = some t → args[j]? = some v → Value.okWide Try.prog W .any base t v := hval0
  have hW' := hW
  obtain ⟨p, q, hA0, hV, rfl, hfz, hnd⟩ := hW
  have hA : DataW.TrodAll enc Try.prog W 0 (fun _ => true) true Try.f4.params.toList args.toList ds p := hA0
  rw [Try.params4] at hA hval
  obtain ⟨v0, vs0, d0, ds0, p0, q0, hargs, rfl, rfl, h0, r0⟩ := trodAll_cons hA
  obtain ⟨v1, vs1, d1, ds1, p1, q1, rfl, rfl, rfl, h1, r1⟩ := trodAll_cons r0
  obtain ⟨rfl, rfl, rfl⟩ := trodAll_nil r1
  obtain rfl : args = #[v0, v1] := by cases args; simp_all
  obtain ⟨rfl, rfl⟩ := trodVars_none hV
  have k0 := h0
  have lt0 : ∀ x ∈ p0, x.block < W.heap.size := by obtain ⟨m, hm⟩ := k0; exact DataW.trod_lt m _ _ _ hm
  obtain ⟨a0, len0, cap0, rfl⟩ := okWide_slice Try.underlying23 (hval 0 23 v0 rfl rfl)
  obtain ⟨z0, w0a, w0b, w0c, w0d⟩ : ∃ l, FdIn W (.slice a0 len0 cap0) l ∧ FdTyped l ∧ (∀ f ∈ l, f.body.length ≤ maxLen) ∧ l.length ≤ maxLen := by
    obtain ⟨fuel, hf⟩ := h0
    obtain ⟨v, l, hcs, h1, h2, h3, h4⟩ := open_fds hf
    simp [Value.cells] at hcs
    subst hcs
    exact ⟨l, h1, h2, h3, h4⟩
  obtain ⟨a1, rfl, rfl, rfl, w1⟩ := open_string Try.underlying9 (hval 1 9 v1 rfl rfl) h1
  clear hA0 hval0
  refine (walk (.slice a0 len0 cap0) z0 a1 W w0a w0b w0c w0d w1).mono fun e W' ⟨he, bel⟩ => ?_
  subst he
  exact ⟨_, rfl, _, _, _, [], _, [], hW', trodAll_mk1 (shut_bool Try.underlying4 _), (trodAll_cons_mk (Below.trod laidOut (by kernel_rfl) (of_decide_eq_true (by kernel_rfl)) k0 bel lt0) (trodAll_cons_mk (shut_string Try.underlying9 w1) trodAll_mk0)), rfl, bel.frame _, fun h => by cases h⟩

theorem over : Rows.extendJoinsRow.holds Try.pinned (OpenSpec.ofChange Rows.extendJoinsSpec) :=
  OpenClaim.holds_of_wide 4 Try.f4 rfl rfl rfl rfl rfl rfl rfl ⟨rfl, rfl, rfl, rfl, rfl⟩ rfl rfl rfl rfl rfl (by kernel_rfl) Try.func4 (by kernel_rfl)
    (of_decide_eq_true (by kernel_rfl)) (by unfold Func.isWrapper; first | (rw [if_pos (by decide +kernel)]; kernel_rfl) | (rw [if_neg (by decide +kernel)]; exact ⟨rfl, rfl⟩))
    (fun os started H enc _ => lifted os started H enc)

theorem proved : Rows.ExtendJoinsSaid := over
end Go.Proofs.Ytdcpohbgbnbgmaa.ExtendJoins
