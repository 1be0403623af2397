/- The walks of layer 3: the reference's Max. -/
import Derived.Test.YtodlmdbgkopdnaaFyG
namespace Go.Proofs.Ytodlmdbgkopdnaa.W
open Go.RowKit
set_option linter.unusedVariables false
set_option linter.unusedSimpArgs false
theorem kind_three (x : Nat) : (rung x = 0 ∧ neg x = false ∧ kindI x = 3) ∨ (¬ (rung x = 0 ∧ neg x = false) ∧ kindI x ≠ 3) := by
  unfold kindI
  by_cases h1 : 9218868437227405312 < rung x
  · right; rw [if_pos h1]; exact ⟨fun h => by omega, by decide⟩
  · rw [if_neg h1]
    by_cases h2 : rung x = 9218868437227405312
    · right; rw [if_pos h2]; exact ⟨fun h => by omega, by split <;> decide⟩
    · rw [if_neg h2]
      by_cases h3 : rung x = 0
      · rw [if_pos h3]
        cases neg x
        · left; exact ⟨h3, rfl, rfl⟩
        · right; exact ⟨fun h => (by cases h.2), by decide⟩
      · right; rw [if_neg h3]; exact ⟨fun h => h3 h.1, by split <;> decide⟩
theorem kind_four (x : Nat) : (rung x = 0 ∧ neg x = true ∧ kindI x = 4) ∨ (¬ (rung x = 0 ∧ neg x = true) ∧ kindI x ≠ 4) := by
  unfold kindI
  by_cases h1 : 9218868437227405312 < rung x
  · right; rw [if_pos h1]; exact ⟨fun h => by omega, by decide⟩
  · rw [if_neg h1]
    by_cases h2 : rung x = 9218868437227405312
    · right; rw [if_pos h2]; exact ⟨fun h => by omega, by split <;> decide⟩
    · rw [if_neg h2]
      by_cases h3 : rung x = 0
      · rw [if_pos h3]
        cases neg x
        · right; exact ⟨fun h => (by cases h.2), by decide⟩
        · left; exact ⟨h3, rfl, rfl⟩
      · right; rw [if_neg h3]; exact ⟨fun h => h3 h.1, by split <;> decide⟩
theorem kind_some (x : Nat) (h : isN x) : ¬ kindI x = 0 := by
  unfold kindI
  rw [if_neg (Nat.not_lt.2 h)]
  split
  · split <;> decide
  · split
    · split <;> decide
    · split <;> decide
theorem rmax_nil (A : Option Addr) (cap : Nat) (w : World) : Calls Try.prog 20 #[.slice A 0 cap] w fun e w' => e = .returned (.tuple #[.float .f64 0, .bool false]) ∧ w = w' := by
  go_enter Try.func20, Try.ntmps20
  go_wp2_with fail
  refine wp_loop_rounds 1 ?_
  rw [rounds_succ]
  go_wp2_with fail
  go_ret2
  exact ⟨rfl, rfl⟩
theorem rmax_any (z : List Nat) (A : Option Addr) (cap : Nat) (hlen : z.length ≤ 1024) (w : World) (hr : IsFloats w A z.length z) : Calls Try.prog 20 #[.slice A z.length cap] w fun e w' => e = .returned (.tuple #[.float .f64 (maxI z).1, .bool (maxI z).2]) ∧ w = w' := by
  by_cases h0 : z.length = 0
  · obtain rfl := List.eq_nil_of_length_eq_zero h0
    exact rmax_nil A cap w
  · obtain ⟨_, hmax, hz, rfl | ⟨b, off, rfl, hlt, hc⟩⟩ := hr
    · exact absurd rfl h0
    · have mb : ∀ k, (maxI (z.take k)).1 < 18446744073709551616 ∧ isN (maxI (z.take k)).1 := fun k => maxI_bound _ fun x hx => hz x (List.mem_of_mem_take hx)
      obtain ⟨G, F, hGF⟩ : ∃ g f, maxI z = (g, f) := ⟨_, _, rfl⟩
      rw [hGF]
      go_enter Try.func20, Try.ntmps20
      go_wp2_with fail
      go_loop [4, 5, 6] (fun u v i => ∃ k : Nat, k ≤ z.length ∧ i = .int .i64 k ∧ u = .float .f64 (maxI (z.take k)).1 ∧ v = .bool (maxI (z.take k)).2) (fun _ _ i => z.length - (intOf i).toNat)
      case atStart => exact ⟨0, Nat.zero_le _, rfl, rfl, rfl⟩
      case round =>
        obtain ⟨k, hk, rfl, rfl, rfl⟩ := hrel
        by_cases hk2 : k < z.length
        · have c0 := hc k hk2
          have hx : z.getD k 0 < 18446744073709551616 := by
            rw [List.getD_eq_getElem?_getD, List.getElem?_eq_getElem hk2]
            exact hz _ (List.getElem_mem hk2)
          have hs := maxI_next z k hk2
          obtain ⟨m1, m2⟩ := mb k
          clear mb hz hc hmax hGF
          generalize z.getD k 0 = x at *
          generalize maxI (z.take k) = p at *
          obtain ⟨g, fd⟩ := p
          replace m1 : g < 18446744073709551616 := m1
          replace m2 : isN g := m2
          have c1 := rkind_any x hx
          by_cases hn : isN x
          · have kx : (rung x = 0 ∧ neg x = false ∧ kindI x = 3) ∨ (¬ (rung x = 0 ∧ neg x = false) ∧ kindI x ≠ 3) := kind_three x
            have kg : (rung g = 0 ∧ neg g = true ∧ kindI g = 4) ∨ (¬ (rung g = 0 ∧ neg g = true) ∧ kindI g ≠ 4) := kind_four g
            have kx0 := kind_some x hn
            have kx0' : (kindI x == 0) = false := by rw [beq_eq_false_iff_ne]; exact kx0
            have rl := rank_lt g x m1 hx
            have c2 := rkind_any g m1
            cases fd
            · have hs : maxI (z.take (k + 1)) = (x, true) := by rw [hs]; unfold maxS; rw [if_pos hn, if_pos (.inl rfl)]
              clear hn hx m1 m2 c2 rl kx kg
              generalize kindI x = q at *
              go_wp2_with fail
              (with_reducible refine (c1 _).mono ?_)
              rintro e w' ⟨rfl, rfl⟩
              go_wp2_with fail
              go_round
              case rel => exact ⟨k + 1, by omega, by go_num, by rw [hs], by rw [hs]⟩
              case measure => simp [intOf]; omega
            · by_cases hv : V g < V x
              · have hs : maxI (z.take (k + 1)) = (x, true) := by rw [hs]; unfold maxS; rw [if_pos hn, if_pos (.inr (rl.2 (.inl hv)))]
                have o1 := order_gt hn m2 hv
                clear hn hx m1 m2 c2 rl kx kg hv
                generalize kindI x = q at *
                go_wp2_with fail
                (with_reducible refine (c1 _).mono ?_)
                rintro e w' ⟨rfl, rfl⟩
                go_wp2_with fail
                go_round
                case rel => exact ⟨k + 1, by omega, by go_num, by rw [hs], by rw [hs]⟩
                case measure => simp [intOf]; omega
              · have o1 : (FloatKind.f64.format.order x g == some .gt) = false := by
                  rcases Int.lt_trichotomy (V x) (V g) with h | h | h
                  · rw [order_lt hn m2 h]; rfl
                  · rw [order_eq hn m2 h]; rfl
                  · exact absurd h hv
                rcases kx with ⟨x1, x2, x3⟩ | ⟨x1, x3⟩
                · rw [x3] at c1
                  rcases kg with ⟨g1, g2, g3⟩ | ⟨g1, g3⟩
                  · rw [g3] at c2
                    have hs : maxI (z.take (k + 1)) = (x, true) := by rw [hs]; unfold maxS; rw [if_pos hn, if_pos (.inr (rl.2 (.inr ⟨g1, x1, g2, x2⟩)))]
                    clear hn hx m1 m2 rl hv x1 x2 x3 g1 g2 g3 kx0 kx0'
                    go_wp2_with fail
                    (with_reducible refine (c1 _).mono ?_)
                    rintro e w' ⟨rfl, rfl⟩
                    go_wp2_with fail
                    (with_reducible refine (c2 _).mono ?_)
                    rintro e w' ⟨rfl, rfl⟩
                    go_wp2_with fail
                    go_round
                    case rel => exact ⟨k + 1, by omega, by go_num, by rw [hs], by rw [hs]⟩
                    case measure => simp [intOf]; omega
                  · have hs : maxI (z.take (k + 1)) = (g, true) := by
                      rw [hs]; unfold maxS
                      rw [if_pos hn, if_neg]
                      rintro (h | h)
                      · cases h
                      · rcases rl.1 h with h | h
                        · exact hv h
                        · exact g1 ⟨h.1, h.2.2.1⟩
                    have g3' : (kindI g == 4) = false := by rw [beq_eq_false_iff_ne]; exact g3
                    clear hn hx m1 m2 rl hv x1 x2 x3 g1 kx0 kx0'
                    generalize kindI g = r at *
                    go_wp2_with fail
                    (with_reducible refine (c1 _).mono ?_)
                    rintro e w' ⟨rfl, rfl⟩
                    go_wp2_with fail
                    (with_reducible refine (c2 _).mono ?_)
                    rintro e w' ⟨rfl, rfl⟩
                    go_wp2_with fail
                    go_round
                    case rel => exact ⟨k + 1, by omega, by go_num, by rw [hs], by rw [hs]⟩
                    case measure => simp [intOf]; omega
                · have hs : maxI (z.take (k + 1)) = (g, true) := by
                    rw [hs]; unfold maxS
                    rw [if_pos hn, if_neg]
                    rintro (h | h)
                    · cases h
                    · rcases rl.1 h with h | h
                      · exact hv h
                      · exact x1 ⟨h.2.1, h.2.2.2⟩
                  have x3' : (kindI x == 3) = false := by rw [beq_eq_false_iff_ne]; exact x3
                  clear hn hx m1 m2 rl hv x1 kg c2
                  generalize kindI x = q at *
                  go_wp2_with fail
                  (with_reducible refine (c1 _).mono ?_)
                  rintro e w' ⟨rfl, rfl⟩
                  go_wp2_with fail
                  go_round
                  case rel => exact ⟨k + 1, by omega, by go_num, by rw [hs], by rw [hs]⟩
                  case measure => simp [intOf]; omega
          · have hs : maxI (z.take (k + 1)) = (g, fd) := by rw [hs]; unfold maxS; rw [if_neg hn]
            have e3 : kindI x = 0 := by
              unfold kindI
              rw [if_pos (Nat.not_le.1 hn)]
            rw [e3] at c1
            clear hn hx m1 m2 e3
            go_wp2_with fail
            (with_reducible refine (c1 _).mono ?_)
            rintro e w' ⟨rfl, rfl⟩
            go_wp2_with fail
            go_round
            case rel => exact ⟨k + 1, by omega, by go_num, by rw [hs], by rw [hs]⟩
            case measure => simp [intOf]; omega
        · obtain rfl : k = z.length := by omega
          rw [List.take_length, hGF]
          clear mb hz hc hGF
          go_wp2_with fail
          go_ret2
          exact ⟨rfl, rfl⟩
end Go.Proofs.Ytodlmdbgkopdnaa.W
