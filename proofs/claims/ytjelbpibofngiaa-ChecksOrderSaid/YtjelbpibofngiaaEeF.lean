/- Layer 6's own code, walked: who says no. -/
import Derived.Test.YtjelbpibofngiaaEeE
namespace Go.Proofs.Ytjelbpibofngiaa.W
open Go.RowKit Go.Maps
set_option linter.unusedVariables false
set_option linter.unusedSimpArgs false
theorem codes_has {D : DataW Unit} (h : CodesD true true true D) (r : Int) : Maps.has D (.int .u32 r) = (decide (r = 1145392729) || decide (r = 1381192786) || decide (r = 1380013125)) := by
  rw [h.2.1 r]
  simp
set_option maxHeartbeats 3200000 in
theorem ekiss_any (s r : Int) (s0 : -9223372036854775808 ≤ s) (s1 : s ≤ 9223372036854775807) (r0 : 0 ≤ r) (r1 : r < 4294967296) (w : World) :
    Calls Try.prog 60 #[.int .i64 s, .int .u32 r] w fun e w' => e = .returned (.int .i64 (kissI s r)) ∧ Below w.heap.size w w' := by
  have d := codes_any
  have hwf : (Lit.int .u32 r).wf = true := WalkArith.wf_u32 (by omega)
  by_cases hs : s = 0
  · subst hs
    have hc : (r = 1145392729 ∧ kissI 0 r = 1) ∨ (r = 1381192786 ∧ kissI 0 r = 2) ∨ (r = 1380013125 ∧ kissI 0 r = 3) ∨ ((decide (r = 1145392729) || decide (r = 1381192786) || decide (r = 1380013125)) = false ∧ kissI 0 r = 4) := by
      unfold kissI
      by_cases h1 : r = 1145392729
      · exact .inl ⟨h1, by rw [if_pos rfl, if_pos h1]⟩
      · by_cases h2 : r = 1381192786
        · exact .inr (.inl ⟨h2, by rw [if_pos rfl, if_neg h1, if_pos h2]⟩)
        · by_cases h3 : r = 1380013125
          · exact .inr (.inr (.inl ⟨h3, by rw [if_pos rfl, if_neg h1, if_neg h2, if_pos h3]⟩))
          · exact .inr (.inr (.inr ⟨by simp [h1, h2, h3], by rw [if_pos rfl, if_neg h1, if_neg h2, if_neg h3]⟩))
    generalize kissI 0 r = v at *
    go_enter Try.func60, Try.ntmps60
    go_wp2_with fail
    (with_reducible refine (d _).mono ?_)
    rintro e w' ⟨b, rfl, D, ⟨n, hown⟩, hD, hB⟩
    have hh := codes_has hD r
    obtain ⟨_, _, k1, k2, k3⟩ := hD
    replace k1 := Lib.hid (k1 rfl)
    replace k2 := Lib.hid (k2 rfl)
    replace k3 := Lib.hid (k3 rfl)
    rcases hc with ⟨rfl, rfl⟩ | ⟨rfl, rfl⟩ | ⟨rfl, rfl⟩ | ⟨hn, rfl⟩
    · have hh' : Maps.has D (.int .u32 1145392729) = true := by rw [hh]; decide
      clear hh
      go_wp2_with (at_lookup; refine wpList_lookup_own_ok_int _ rfl _ _ 87 rfl 27 3 .i64 (int_keyed Try.underlying27) Try.underlying87 Try.underlying3 (zero_int _) b n _ rfl hown _ _ rfl (keyOf_int_mk Try.underlying27 hwf) ?_; intro c hat hwc; rw [k1.out _] at hat; simp only [DataW.lit.injEq, Lit.int.injEq, true_and] at hat; subst hat; rw [hh'])
      go_ret
      exact ⟨rfl, hB⟩
    · have hh' : Maps.has D (.int .u32 1381192786) = true := by rw [hh]; decide
      clear hh
      go_wp2_with (at_lookup; refine wpList_lookup_own_ok_int _ rfl _ _ 87 rfl 27 3 .i64 (int_keyed Try.underlying27) Try.underlying87 Try.underlying3 (zero_int _) b n _ rfl hown _ _ rfl (keyOf_int_mk Try.underlying27 hwf) ?_; intro c hat hwc; rw [k2.out _] at hat; simp only [DataW.lit.injEq, Lit.int.injEq, true_and] at hat; subst hat; rw [hh'])
      go_ret
      exact ⟨rfl, hB⟩
    · have hh' : Maps.has D (.int .u32 1380013125) = true := by rw [hh]; decide
      clear hh
      go_wp2_with (at_lookup; refine wpList_lookup_own_ok_int _ rfl _ _ 87 rfl 27 3 .i64 (int_keyed Try.underlying27) Try.underlying87 Try.underlying3 (zero_int _) b n _ rfl hown _ _ rfl (keyOf_int_mk Try.underlying27 hwf) ?_; intro c hat hwc; rw [k3.out _] at hat; simp only [DataW.lit.injEq, Lit.int.injEq, true_and] at hat; subst hat; rw [hh'])
      go_ret
      exact ⟨rfl, hB⟩
    · rw [hn] at hh
      go_wp2_with (at_lookup; refine wpList_lookup_own_ok_int _ rfl _ _ 87 rfl 27 3 .i64 (int_keyed Try.underlying27) Try.underlying87 Try.underlying3 (zero_int _) b n _ rfl hown _ _ rfl (keyOf_int_mk Try.underlying27 hwf) ?_; intro c hat hwc; rw [hh])
      go_ret
      exact ⟨rfl, hB⟩
  · have hv : kissI s r = 0 := by unfold kissI; rw [if_neg hs]
    rw [hv]
    clear hv hwf d
    go_enter Try.func60, Try.ntmps60
    go_wp2_with fail
    go_ret
    exact ⟨rfl, Below.refl _ _⟩
end Go.Proofs.Ytjelbpibofngiaa.W
