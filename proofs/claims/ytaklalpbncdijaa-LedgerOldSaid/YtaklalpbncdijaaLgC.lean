/- The document's own answers of layer 7, walked: a clock that is corrected. -/
import Derived.Test.YtaklalpbncdijaaLgB
import Derived.Laws.AppendOwnNone
import Derived.Laws.AppendOwn
namespace Go.Proofs.Ytaklalpbncdijaa.W
open Go.RowKit Go.Sort
set_option linter.unusedVariables false
set_option linter.unusedSimpArgs false
theorem RkIn.mono {F G : Nat → Prop} {w : World} {p : Nat} {c : Ck} (h : RkIn F w p c) (hFG : ∀ k, F k → G k) (hG : ∀ k, G k → k < w.heap.size) : RkIn G w p c := by
  obtain ⟨h1, h2, v, h3, h4⟩ := h
  exact ⟨hFG p h1, hG, v, h3, h4.mono fun b hb => ⟨hFG b hb.1, hb.2⟩⟩
theorem RkIn.lt {F : Nat → Prop} {w : World} {p : Nat} {c : Ck} (h : RkIn F w p c) : ∀ k, F k → k < w.heap.size := h.2.1
theorem enE_one (e : En) : ∀ u ∈ enE e, u.oneCell' = true := by
  intro u hu
  simp [enE] at hu
  rcases hu with rfl | rfl | rfl <;> rfl
theorem enE_all (l : List En) : ∀ u ∈ l.flatMap enE, u.oneCell' = true := by
  intro u hu
  obtain ⟨e, _, h⟩ := List.mem_flatMap.1 hu
  exact enE_one e u h
theorem new_row3 (w : World) (a b c : Value) (t : TypeId) : ∀ j u, ([a, b, c] : List Value)[j]? = some u → (w.alloc (.cells #[a, b, c] t)).cell? ((⟨w.heap.size, 0, none⟩ : Addr).add j) = some u := by
  intro j u hu
  rw [Addr.add_lit, Nat.zero_add]
  match j, hu with
  | 0, hu => simp at hu; subst hu; simp [go_sem]
  | 1, hu => simp at hu; subst hu; simp [go_sem]
  | 2, hu => simp at hu; subst hu; simp [go_sem]
theorem info_En : (Try.prog.info? 62).map (fun i => (i.zero, i.size, i.bytes)) = some (some (.agg #[.int .i64 0, .int .i64 0, .bool false]), 3, 24) := by kernel_rfl
set_option maxHeartbeats 6400000 in
theorem rrate_any {F : Nat → Prop} {p : Nat} {c : Ck} (ok : c.Ok) (raw r : Int) (r0 : -9223372036854775808 ≤ raw) (r1 : raw ≤ 9223372036854775807) (w : World) (hc : RkIn F w p c) :
    Calls Try.prog 23 #[.pointer (some ⟨p, 0, none⟩), .int .i64 raw, .int .i64 r] w fun e w' => e = .returned (.int .i64 (ratE c raw r)) ∧ RkIn (Gr F w w') w' p (ratS c raw r) ∧ Touch F w w' := by
  have d := rtot_any ok raw r0 r1 w hc
  by_cases h : totE c raw = 0
  · by_cases h2 : r < -2147483648 ∨ 2147483648 < r
    · have e1 : ratE c raw r = 1 := by unfold ratE; rw [if_neg (by omega), if_pos h2]
      have e2 : ratS c raw r = c := by unfold ratS; rw [e1]; rfl
      rw [e1, e2]
      rw [h] at d
      clear e1 e2 h
      generalize totV c raw = s at *
      have HC := Lib.hid hc
      clear hc ok
      rcases h2 with h2 | h2
      · go_enter Try.func23, Try.ntmps23
        go_wp2_with fail
        refine d.mono ?_
        rintro e w' ⟨rfl, hB⟩
        go_wp2_with fail
        go_ret
        exact ⟨rfl, (HC.out.below hB).mono (fun k hk => .inl hk) (gr_lt HC.out.lt hB.size), Touch.of_below F hB⟩
      · have h3 : ¬ r < -2147483648 := by omega
        go_enter Try.func23, Try.ntmps23
        go_wp2_with fail
        refine d.mono ?_
        rintro e w' ⟨rfl, hB⟩
        go_wp2_with fail
        go_ret
        exact ⟨rfl, (HC.out.below hB).mono (fun k hk => .inl hk) (gr_lt HC.out.lt hB.size), Touch.of_below F hB⟩
    · have e1 : ratE c raw r = 0 := by unfold ratE; rw [if_neg (by omega), if_neg h2]
      have e2 : ratS c raw r = ⟨raw, tot c raw, r, c.l⟩ := by unfold ratS; rw [if_pos e1]
      have h3 : ¬ r < -2147483648 := by omega
      have h4 : ¬ 2147483648 < r := by omega
      rw [e1, e2]
      rw [rtot_zero h, h] at d
      clear e1 e2 h h2
      generalize tot c raw = s at *
      have HC := Lib.hid hc
      clear hc ok
      go_enter Try.func23, Try.ntmps23
      go_wp2_with fail
      refine d.mono ?_
      rintro e w' ⟨rfl, hB⟩
      obtain ⟨hp, hF, v, hb, hs⟩ := HC.out.below hB
      obtain ⟨q0, q1, q2, q3, f0, f1, f2, f3⟩ := clock_cells hb
      go_wp2_with fail
      go_ret
      have b1 := block_set 1 (.int .i64 s) hb
      have b2 := block_set 0 (.int .i64 raw) b1
      have b3 := block_set 2 (.int .i64 r) b2
      have tB : Touch F w w' := Touch.of_below F hB
      refine ⟨rfl, ⟨.inl hp, gr_lt HC.out.lt (by rw [set_size, set_size, set_size]; exact hB.size), v, b3, ?_⟩, ((tB.setCell (.inl hp) _).setCell (.inl hp) _).setCell (.inl hp) _⟩
      exact (hs.mono (fun b hb => ⟨.inl hb.1, hb.2⟩)).kept (fun b hb => by rw [block_far _ _ hb.2, block_far _ _ hb.2, block_far _ _ hb.2])
  · have e1 : ratE c raw r = totE c raw := by unfold ratE; rw [if_pos h]
    have e2 : ratS c raw r = c := by unfold ratS; rw [e1, if_neg h]
    rw [e1, e2]
    clear e1 e2
    have HC := Lib.hid hc
    clear hc ok
    generalize totE c raw = x at *
    generalize totV c raw = s at *
    go_enter Try.func23, Try.ntmps23
    go_wp2_with fail
    refine d.mono ?_
    rintro e w' ⟨rfl, hB⟩
    go_wp2_with fail
    go_ret
    exact ⟨rfl, (HC.out.below hB).mono (fun k hk => .inl hk) (gr_lt HC.out.lt hB.size), Touch.of_below F hB⟩
end Go.Proofs.Ytaklalpbncdijaa.W
