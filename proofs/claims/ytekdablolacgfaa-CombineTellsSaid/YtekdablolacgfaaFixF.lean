/- The document's own shift, walked: its two loops. -/
import Derived.Test.YtekdablolacgfaaFixE
import Derived.Lib.Hide
namespace Go.Proofs.Ytekdablolacgfaa.W
open Go.RowKit
set_option linter.unusedVariables false
set_option linter.unusedSimpArgs false
/-- The first loop: so many places down are done. -/
structure Down (a0 n nc c m : Int) : Prop where
  lo : nc ≤ m
  hi : m ≤ 0 ∨ m = nc
  val : c = a0 / 2 ^ (m - nc).toNat
  c0 : -9223372036854775808 ≤ c
  c1 : c ≤ 9223372036854775807
theorem Down.next {a0 n nc c m : Int} (D : Down a0 n nc c m) (h : m < 0) : Down a0 n nc (c / 2) (m + 1) := by
  have := D.lo; have := D.c0; have := D.c1
  refine ⟨by omega, by omega, ?_, by omega, by omega⟩
  rw [show (m + 1 - nc).toNat = (m - nc).toNat + 1 by omega, div_next, ← D.val]
theorem Down.stop {a0 n nc c m : Int} (D : Down a0 n nc c m) (hn : nc = max (-1000) (min n 1000)) (h : m < 0) (hc : c = 0 ∨ c = -1) : c = shiftI a0 n := by
  have := D.lo
  have hv := div_stays a0 c _ (min (-n) 1000).toNat D.val (by omega) hc
  unfold shiftI
  rw [if_pos (by omega), hv]
  rcases hc with rfl | rfl <;> rfl
/-- The second loop: so many places up are done. -/
structure Up (a0 n c m v i : Int) : Prop where
  lo : 0 ≤ i
  hi : i ≤ m
  mm : m ≤ 1000
  val : cutI v = cutI (c * 2 ^ (m - i).toNat)
  v0 : -9223372036854775808 ≤ v
  v1 : v ≤ 9223372036854775807
theorem Down.up {a0 n nc c m : Int} (D : Down a0 n nc c m) (hn : nc = max (-1000) (min n 1000)) (h : 0 ≤ m) : Up a0 n c m c m :=
  ⟨h, Int.le_refl _, by have := D.hi; omega, by rw [show (m - m).toNat = 0 by omega]; simp, D.c0, D.c1⟩
theorem Up.next {a0 n c m v i : Int} (U : Up a0 n c m v i) (h : 0 < i) : Up a0 n c m (addI v v) (i - 1) := by
  have := U.hi; have := U.mm; have r := cutI_range (v + v)
  refine ⟨by omega, by omega, by omega, ?_, by unfold addI; omega, by unfold addI; omega⟩
  rw [show (m - (i - 1)).toNat = (m - i).toNat + 1 by omega]
  exact twice_next v c _ U.val
theorem Up.stop {a0 n nc c m v i : Int} (U : Up a0 n c m v i) (D : Down a0 n nc c m) (hn : nc = max (-1000) (min n 1000)) (h0 : 0 ≤ m) (h : i ≤ 0 ∨ v = 0) : max v (-9223372036854775807) = shiftI a0 n := by
  have h1 := U.lo
  have h2 := U.hi
  have h3 : cutI v = cutI (c * 2 ^ m.toNat) := by
    rcases h with h | h
    · have := U.val
      rw [show (m - i).toNat = m.toNat by omega] at this
      exact this
    · subst h
      rw [twice_stays c _ m.toNat U.val]; rfl
  rw [← cutI_max v U.v1, h3]
  unfold shiftI
  have hv := D.val
  have := D.lo
  by_cases hn0 : n < 0
  · have hm : m = 0 := by have := D.hi; omega
    subst hm
    rw [if_pos hn0, show (min (-n) 1000).toNat = (0 - nc).toNat by omega, ← hv]
    simp
  · rw [if_neg hn0]
    by_cases hz : m = nc
    · subst hz
      rw [show (m - m).toNat = 0 by omega] at hv
      simp at hv
      rw [hv, hn, show (max (-1000) (min n 1000)) = min n 1000 by omega]
    · have := D.hi; omega
set_option maxHeartbeats 1600000 in
theorem rshift_any (a n : Int) (ha : -9223372036854775808 ≤ a) (ha' : a ≤ 9223372036854775807) (hn : -9223372036854775808 ≤ n) (hn' : n ≤ 9223372036854775807) (w : World) :
    Calls Try.prog 56 #[.int .i64 a, .int .i64 n] w fun e w' => e = .returned (.int .i64 (shiftI a n)) ∧ w = w' := by
  obtain ⟨nc, hnc⟩ : ∃ nc : Int, nc = max (-1000) (min n 1000) := ⟨_, rfl⟩
  have HN := Lib.hid hnc
  have D0 : Down a n nc a nc := ⟨Int.le_refl _, .inr rfl, by rw [show (nc - nc).toNat = 0 by omega]; simp, ha, ha'⟩
  obtain ⟨r, hr⟩ : ∃ r, shiftI a n = r := ⟨_, rfl⟩
  have HR := Lib.hid hr
  rw [hr]
  clear hr hnc
  go_enter Try.func56, Try.ntmps56
  go_wp2
  all_goals
    go_loop [0, 1] (fun u v => ∃ c m : Int, u = .int .i64 c ∧ v = .int .i64 m ∧ Down a n nc c m) (fun _ v => (-(intOf v)).toNat)
    case atStart => exact ⟨a, nc, rfl, by congr 1; have := HN.out; omega, D0⟩
    case round =>
      obtain ⟨c, m, rfl, rfl, D⟩ := hrel
      have c0 := D.c0
      have c1 := D.c1
      have m0 := D.lo
      have m1 := D.hi
      have n0 := HN.out
      have m2 : -1000 ≤ m ∧ m ≤ 1000 := by omega
      obtain ⟨m2, m3⟩ := m2
      clear n0 m0 m1
      by_cases hm : m < 0
      · by_cases hc0 : c = 0
        · have hst := Lib.hid (D.stop HN.out hm (.inl hc0))
          subst hc0
          go_wp2
          go_ret
          exact ⟨ret1 (by rw [hst.out, HR.out]), rfl⟩
        · by_cases hc1 : c = -1
          · have hst := Lib.hid (D.stop HN.out hm (.inr hc1))
            subst hc1
            go_wp2
            go_ret
            exact ⟨ret1 (by rw [hst.out, HR.out]), rfl⟩
          · have e0 : (c != 0) = true := by simp [hc0]
            have e1 : (c != -1) = true := by simp [hc1]
            have N := D.next hm
            clear hc0 hc1
            go_wp2
            go_round
            case rel => exact ⟨c / 2, m + 1, rfl, rfl, N⟩
            case measure => simp [intOf]; omega
      · have hm0 : 0 ≤ m := by omega
        have U0 := D.up HN.out hm0
        go_wp2
        go_loop [0, 1] (fun u v => ∃ x i : Int, u = .int .i64 x ∧ v = .int .i64 i ∧ Up a n c m x i) (fun _ v => (intOf v).toNat)
        case atStart => exact ⟨c, m, rfl, rfl, U0⟩
        case round =>
          obtain ⟨x, i, rfl, rfl, U⟩ := hrel
          have i0 := U.lo
          have i1 := U.hi
          have x0 := U.v0
          have x1 := U.v1
          by_cases hi : 0 < i
          · by_cases hx : x = 0
            · have hst := Lib.hid (U.stop D HN.out hm0 (.inr hx))
              subst hx
              go_wp2
              all_goals go_ret
              all_goals exact ⟨ret1 (by rw [← HR.out, ← hst.out]; omega), rfl⟩
            · have e0 : (x != 0) = true := by simp [hx]
              have N := U.next hi
              clear hx
              go_wp2_with fail
              (with_reducible refine (radd_any x x x0 x1 x0 x1 _).mono ?_)
              rintro e w1 ⟨rfl, rfl⟩
              go_wp2
              go_round
              case rel => exact ⟨_, i - 1, rfl, rfl, N⟩
              case measure => simp [intOf]; omega
          · have hst := Lib.hid (U.stop D HN.out hm0 (.inl (by omega)))
            go_wp2
            all_goals go_ret
            all_goals exact ⟨ret1 (by rw [← HR.out, ← hst.out]; omega), rfl⟩
end Go.Proofs.Ytekdablolacgfaa.W
