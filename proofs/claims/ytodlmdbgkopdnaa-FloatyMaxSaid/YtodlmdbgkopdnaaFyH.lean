/- The walks of layer 3: Max and the reference's. -/
import Derived.Test.YtodlmdbgkopdnaaFyG
namespace Go.Proofs.Ytodlmdbgkopdnaa.W
open Go.RowKit
set_option linter.unusedVariables false
set_option linter.unusedSimpArgs false
theorem max_nil (A : Option Addr) (cap : Nat) (w : World) : Calls Try.prog 19 #[.slice A 0 cap] w fun e w' => e = .returned (.tuple #[.float .f64 0, .bool false]) ∧ w = w' := by
  go_enter Try.func19, Try.ntmps19
  go_wp2_with fail
  refine wp_loop_rounds 1 ?_
  rw [rounds_succ]
  go_wp2_with fail
  go_ret2
  exact ⟨rfl, rfl⟩
theorem max_any (z : List Nat) (A : Option Addr) (cap : Nat) (hlen : z.length ≤ 1024) (w : World) (hr : IsFloats w A z.length z) : Calls Try.prog 19 #[.slice A z.length cap] w fun e w' => e = .returned (.tuple #[.float .f64 (maxI z).1, .bool (maxI z).2]) ∧ w = w' := by
  by_cases h0 : z.length = 0
  · obtain rfl := List.eq_nil_of_length_eq_zero h0
    exact max_nil A cap w
  · obtain ⟨_, hmax, hz, rfl | ⟨b, off, rfl, hlt, hc⟩⟩ := hr
    · exact absurd rfl h0
    · have mb : ∀ k, (maxI (z.take k)).1 < 18446744073709551616 ∧ isN (maxI (z.take k)).1 := fun k => maxI_bound _ fun x hx => hz x (List.mem_of_mem_take hx)
      obtain ⟨G, F, hGF⟩ : ∃ g f, maxI z = (g, f) := ⟨_, _, rfl⟩
      rw [hGF]
      go_enter Try.func19, Try.ntmps19
      go_wp2_with fail
      go_loop [4, 5, 10] (fun u v i => ∃ k : Nat, k ≤ z.length ∧ i = .int .i64 k ∧ u = .float .f64 (maxI (z.take k)).1 ∧ v = .bool (maxI (z.take k)).2) (fun _ _ i => z.length - (intOf i).toNat)
      case atStart => exact ⟨0, Nat.zero_le _, rfl, rfl, rfl⟩
      case round =>
        obtain ⟨k, hk, rfl, rfl, rfl⟩ := hrel
        by_cases hk2 : k < z.length
        · have c0 := hc k hk2
          have hx : z.getD k 0 < 18446744073709551616 := by
            rw [List.getD_eq_getElem?_getD, List.getElem?_eq_getElem hk2]
            exact hz _ (List.getElem_mem hk2)
          have hs := maxI_next z k hk2
          obtain ⟨m1, _⟩ := mb k
          clear mb hz hc hmax hGF
          generalize z.getD k 0 = x at *
          have c1 := isNaN_any x
          generalize maxI (z.take k) = p at *
          obtain ⟨g, fd⟩ := p
          replace m1 : g < 18446744073709551616 := m1
          by_cases hn : isN x
          · rw [show decide (¬ isN x) = false by simpa using hn] at c1
            have c2 := rank_any x hx
            have c3 := rank_any g m1
            cases fd
            · have hs : maxI (z.take (k + 1)) = (x, true) := by rw [hs]; unfold maxS; rw [if_pos hn, if_pos (.inl rfl)]
              clear hn hx m1 c2 c3
              go_wp2_with fail
              (with_reducible refine (c1 _).mono ?_)
              rintro e w' ⟨rfl, rfl⟩
              go_wp2_with fail
              go_round
              case rel => exact ⟨k + 1, by omega, by go_num, by rw [hs], by rw [hs]⟩
              case measure => simp [intOf]; omega
            · by_cases hlt2 : rankI g < rankI x
              · have hs : maxI (z.take (k + 1)) = (x, true) := by rw [hs]; unfold maxS; rw [if_pos hn, if_pos (.inr hlt2)]
                clear hn hx m1
                generalize rankI g = rg at *
                generalize rankI x = rx at *
                go_wp2_with fail
                (with_reducible refine (c1 _).mono ?_)
                rintro e w' ⟨rfl, rfl⟩
                go_wp2_with fail
                (with_reducible refine (c2 _).mono ?_)
                rintro e w' ⟨rfl, rfl⟩
                go_wp2_with fail
                (with_reducible refine (c3 _).mono ?_)
                rintro e w' ⟨rfl, rfl⟩
                go_wp2_with fail
                go_round
                case rel => exact ⟨k + 1, by omega, by go_num, by rw [hs], by rw [hs]⟩
                case measure => simp [intOf]; omega
              · have hs : maxI (z.take (k + 1)) = (g, true) := by rw [hs]; unfold maxS; rw [if_pos hn, if_neg (fun h => h.elim (fun h => by cases h) hlt2)]
                clear hn hx m1
                generalize rankI g = rg at *
                generalize rankI x = rx at *
                go_wp2_with fail
                (with_reducible refine (c1 _).mono ?_)
                rintro e w' ⟨rfl, rfl⟩
                go_wp2_with fail
                (with_reducible refine (c2 _).mono ?_)
                rintro e w' ⟨rfl, rfl⟩
                go_wp2_with fail
                (with_reducible refine (c3 _).mono ?_)
                rintro e w' ⟨rfl, rfl⟩
                go_wp2_with fail
                go_round
                case rel => exact ⟨k + 1, by omega, by go_num, by rw [hs], by rw [hs]⟩
                case measure => simp [intOf]; omega
          · rw [show decide (¬ isN x) = true by simpa using hn] at c1
            have hs : maxI (z.take (k + 1)) = (g, fd) := by rw [hs]; unfold maxS; rw [if_neg hn]
            clear hn hx m1
            go_wp2_with fail
            (with_reducible refine (c1 _).mono ?_)
            rintro e w' ⟨rfl, rfl⟩
            go_wp2_with fail
            go_round
            case rel => exact ⟨k + 1, by omega, by go_num, by rw [hs], by rw [hs]⟩
            case measure => simp [intOf]; omega
        · obtain rfl : k = z.length := by omega
          rw [List.take_length, hGF]
          clear mb hz hc hGF
          go_wp2_with fail
          go_ret2
          exact ⟨rfl, rfl⟩
end Go.Proofs.Ytodlmdbgkopdnaa.W
