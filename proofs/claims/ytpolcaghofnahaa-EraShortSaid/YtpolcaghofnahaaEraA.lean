/- Layer 4 as plain functions on whole numbers, and the walks of its functions. -/
import Derived.Test.YtpolcaghofnahaaFixD
namespace Go.Proofs.Ytpolcaghofnahaa.W
open Go.RowKit
set_option linter.unusedVariables false
set_option linter.unusedSimpArgs false
/-- How much a is behind b. -/
def dfI (a b : Int) : Int := if (a - b) % 18446744073709551616 = 9223372036854775808 then -9223372036854775807 else if (a - b) % 18446744073709551616 < 9223372036854775808 then (a - b) % 18446744073709551616 else (a - b) % 18446744073709551616 - 18446744073709551616
def plI (a d : Int) : Int := (a + d) % 18446744073709551616
def shI (a : Int) : Int := if a ≤ 0 then 0 else min ((a + 65535) / 65536) 4294967295
def abI (about : Int) : Int := max (-4611686018427387904) (min about 4611686018427387904)
def nearI (sec about : Int) : Int := abI about + ((sec - abI about + 2147483648) % 4294967296 - 2147483648)
def precI (a : Int) : Int := logI (max a 1 - 1) - 31
theorem dfI_range (a b : Int) : -9223372036854775807 ≤ dfI a b ∧ dfI a b ≤ 9223372036854775807 := by unfold dfI; omega
theorem plI_range (a d : Int) : 0 ≤ plI a d ∧ plI a d < 18446744073709551616 := by unfold plI; omega
theorem shI_range (a : Int) : 0 ≤ shI a ∧ shI a ≤ 4294967295 := by unfold shI; omega
theorem nearI_range (s b : Int) : -4611686020574871552 ≤ nearI s b ∧ nearI s b ≤ 4611686020574871552 := by unfold nearI abI; omega
set_option maxHeartbeats 800000 in
theorem parts_any (a : Int) (h : 0 ≤ a) (h' : a < 18446744073709551616) (w : World) :
    Calls Try.prog 26 #[.int .u64 a] w fun e w' => e = .returned (.agg #[.int .u32 (a / 4294967296), .int .u32 (a % 4294967296)]) ∧ Below w.heap.size w w' := by
  go_enter Try.func26, Try.ntmps26
  go_wp2
  exact bodyPost_ret (v := .agg #[.int .u32 (a / 4294967296), .int .u32 (a % 4294967296)]) (by simp [results, Try.results26, go_sem]) rfl ⟨rfl, by repeat' (first | (with_reducible exact Below.refl _ _) | (with_reducible assumption) | (with_reducible refine below_drewN ?_ _) | (with_reducible refine Below.drew ?_) | (with_reducible refine Below.setCell ?_ ?_ _) | (with_reducible refine Below.alloc ?_ ?_ _) | (simp; done) | (simp; omega) | omega)⟩
set_option maxHeartbeats 800000 in
theorem secs_any (a : Int) (h : 0 ≤ a) (h' : a < 18446744073709551616) (w : World) :
    Calls Try.prog 10 #[.int .u64 a] w fun e w' => e = .returned (.tuple #[.int .u32 (a / 4294967296), .int .u32 (a % 4294967296)]) ∧ Below w.heap.size w w' := by
  have c := parts_any a h h'
  go_enter Try.func10, Try.ntmps10
  go_wp2_with fail
  (with_reducible refine (c _).mono ?_)
  rintro e w1 ⟨rfl, hb⟩
  go_wp2_with fail
  go_quiet (fail)
  go_wp2_with fail
  go_ret2
  have hz := hb.size
  exact ⟨rfl, by repeat' (first | (with_reducible exact Below.refl _ _) | (with_reducible assumption) | (with_reducible refine below_drewN ?_ _) | (with_reducible refine Below.drew ?_) | (with_reducible refine Below.setCell ?_ ?_ _) | (with_reducible refine Below.alloc ?_ ?_ _) | (simp; done) | (simp; omega) | omega)⟩
set_option maxHeartbeats 800000 in
theorem rsecs_any (a : Int) (h : 0 ≤ a) (h' : a < 18446744073709551616) (w : World) :
    Calls Try.prog 11 #[.int .u64 a] w fun e w' => e = .returned (.tuple #[.int .u32 (a / 4294967296), .int .u32 (a % 4294967296)]) ∧ w = w' := by
  go_enter Try.func11, Try.ntmps11
  go_wp2
  go_ret2
  exact ⟨rfl, rfl⟩
set_option maxHeartbeats 800000 in
theorem df_any (a b : Int) (h : 0 ≤ a) (h' : a < 18446744073709551616) (g : 0 ≤ b) (g' : b < 18446744073709551616) (w : World) :
    Calls Try.prog 12 #[.int .u64 a, .int .u64 b] w fun e w' => e = .returned (.int .i64 (dfI a b)) ∧ Below w.heap.size w w' := by
  obtain ⟨d, hd⟩ : ∃ d, (a - b) % 18446744073709551616 = d := ⟨_, rfl⟩
  have e1 : IntKind.u64.wrap (a - b) = d := by rw [IntKind.wrap_u64, hd]
  obtain ⟨d0, d1⟩ : 0 ≤ d ∧ d < 18446744073709551616 := by omega
  have c1 := parts_any d d0 d1
  have hv : dfI a b = if d = 9223372036854775808 then -9223372036854775807 else if d < 9223372036854775808 then d else d - 18446744073709551616 := by unfold dfI; rw [hd]
  rw [hv]
  clear hv hd
  go_enter Try.func12, Try.ntmps12
  go_wp2_with fail
  (with_reducible refine (c1 _).mono ?_)
  rintro e w1 ⟨rfl, hb⟩
  go_wp2_with fail
  all_goals go_ret
  all_goals exact ⟨ret1 (by (try simp only [wrap64, wrap32, IntKind.wrap_u64, IntKind.wrap_i64, IntKind.wrap_u32, IntKind.wrap_i32, IntKind.wrap_u8, IntKind.wrap_u16]) <;> omega), hb⟩
set_option maxHeartbeats 800000 in
theorem pl_any (a d : Int) (h : 0 ≤ a) (h' : a < 18446744073709551616) (g : -9223372036854775808 ≤ d) (g' : d ≤ 9223372036854775807) (w : World) :
    Calls Try.prog 14 #[.int .u64 a, .int .i64 d] w fun e w' => e = .returned (.int .u64 (plI a d)) ∧ w = w' := by
  go_enter Try.func14, Try.ntmps14
  go_wp2
  go_ret
  exact ⟨ret1 (by unfold plI; (try simp only [wrap64, wrap32, IntKind.wrap_u64, IntKind.wrap_i64, IntKind.wrap_u32, IntKind.wrap_i32, IntKind.wrap_u8, IntKind.wrap_u16]) <;> omega), rfl⟩
set_option maxHeartbeats 800000 in
theorem long_any (n : Int) (h : 0 ≤ n) (h' : n < 4294967296) (w : World) :
    Calls Try.prog 18 #[.int .u32 n] w fun e w' => e = .returned (.int .i64 (n * 65536)) ∧ w = w' := by
  go_enter Try.func18, Try.ntmps18
  go_wp2
  go_ret
  exact ⟨ret1 (by (try simp only [wrap64, wrap32, IntKind.wrap_u64, IntKind.wrap_i64, IntKind.wrap_u32, IntKind.wrap_i32, IntKind.wrap_u8, IntKind.wrap_u16]) <;> omega), rfl⟩
theorem shift16 (x : Int) : shiftI x (-16) = cutI (x / 65536) := by
  unfold shiftI
  rw [if_pos (by decide)]
  rfl
set_option maxHeartbeats 800000 in
theorem sh_any (a : Int) (h : -9223372036854775808 ≤ a) (h' : a ≤ 9223372036854775807) (w : World) :
    Calls Try.prog 16 #[.int .i64 a] w fun e w' => e = .returned (.int .u32 (shI a)) ∧ w = w' := by
  rcases Int.lt_trichotomy a 0 with hz | hz | hz
  · have c1 := shift_any 0 (-16) (by decide) (by decide) (by decide) (by decide)
    rw [shift16, show cutI (0 / 65536) = 0 by decide] at c1
    go_enter Try.func16, Try.ntmps16
    go_wp2_with fail
    (with_reducible refine (c1 _).mono ?_)
    rintro e w1 ⟨rfl, rfl⟩
    go_wp2_with fail
    go_ret
    exact ⟨ret1 (by unfold shI; (try simp only [wrap64, wrap32, IntKind.wrap_u64, IntKind.wrap_i64, IntKind.wrap_u32, IntKind.wrap_i32, IntKind.wrap_u8, IntKind.wrap_u16]) <;> omega), rfl⟩
  · subst hz
    have c1 := shift_any 0 (-16) (by decide) (by decide) (by decide) (by decide)
    rw [shift16, show cutI (0 / 65536) = 0 by decide] at c1
    go_enter Try.func16, Try.ntmps16
    go_wp2_with fail
    (with_reducible refine (c1 _).mono ?_)
    rintro e w1 ⟨rfl, rfl⟩
    go_wp2_with fail
    go_ret
    exact ⟨ret1 (by unfold shI; (try simp only [wrap64, wrap32, IntKind.wrap_u64, IntKind.wrap_i64, IntKind.wrap_u32, IntKind.wrap_i32, IntKind.wrap_u8, IntKind.wrap_u16]) <;> omega), rfl⟩
  · obtain ⟨s, hs⟩ : ∃ s, (a + 65535) / 65536 = s := ⟨_, rfl⟩
    have hv : shI a = min s 4294967295 := by unfold shI; rw [if_neg (by omega), hs]
    obtain ⟨s0, s1⟩ : 0 ≤ s ∧ s ≤ 140737488355328 := by omega
    have c1 := shift_any (-a) (-16) (by omega) (by omega) (by decide) (by decide)
    rw [shift16, show cutI (-a / 65536) = -s by rw [cutI_in _ (by omega) (by omega)]; omega] at c1
    rw [hv]
    clear hv
    rcases Int.lt_trichotomy s 4294967295 with hm | hm | hm
    · go_enter Try.func16, Try.ntmps16
      go_wp2_with fail
      (with_reducible refine (c1 _).mono ?_)
      rintro e w1 ⟨rfl, rfl⟩
      go_wp2_with fail
      go_ret
      exact ⟨ret1 (by (try simp only [wrap64, wrap32, IntKind.wrap_u64, IntKind.wrap_i64, IntKind.wrap_u32, IntKind.wrap_i32, IntKind.wrap_u8, IntKind.wrap_u16]) <;> omega), rfl⟩
    · subst hm
      go_enter Try.func16, Try.ntmps16
      go_wp2_with fail
      (with_reducible refine (c1 _).mono ?_)
      rintro e w1 ⟨rfl, rfl⟩
      go_wp2_with fail
      go_ret
      exact ⟨ret1 (by (try simp only [wrap64, wrap32, IntKind.wrap_u64, IntKind.wrap_i64, IntKind.wrap_u32, IntKind.wrap_i32, IntKind.wrap_u8, IntKind.wrap_u16]) <;> omega), rfl⟩
    · go_enter Try.func16, Try.ntmps16
      go_wp2_with fail
      (with_reducible refine (c1 _).mono ?_)
      rintro e w1 ⟨rfl, rfl⟩
      go_wp2_with fail
      go_ret
      exact ⟨ret1 (by (try simp only [wrap64, wrap32, IntKind.wrap_u64, IntKind.wrap_i64, IntKind.wrap_u32, IntKind.wrap_i32, IntKind.wrap_u8, IntKind.wrap_u16]) <;> omega), rfl⟩
set_option maxHeartbeats 800000 in
theorem near_any (s b : Int) (h : 0 ≤ s) (h' : s < 4294967296) (g : -9223372036854775808 ≤ b) (g' : b ≤ 9223372036854775807) (w : World) :
    Calls Try.prog 21 #[.int .u32 s, .int .i64 b] w fun e w' => e = .returned (.int .i64 (nearI s b)) ∧ w = w' := by
  rcases Int.lt_trichotomy b (-4611686018427387904) with h1 | h1 | h1
  · go_enter Try.func21, Try.ntmps21
    go_wp2
    go_ret
    exact ⟨ret1 (by unfold nearI abI; (try simp only [wrap64, wrap32, IntKind.wrap_u64, IntKind.wrap_i64, IntKind.wrap_u32, IntKind.wrap_i32, IntKind.wrap_u8, IntKind.wrap_u16]) <;> omega), rfl⟩
  · subst h1
    go_enter Try.func21, Try.ntmps21
    go_wp2
    go_ret
    exact ⟨ret1 (by unfold nearI abI; (try simp only [wrap64, wrap32, IntKind.wrap_u64, IntKind.wrap_i64, IntKind.wrap_u32, IntKind.wrap_i32, IntKind.wrap_u8, IntKind.wrap_u16]) <;> omega), rfl⟩
  rcases Int.lt_trichotomy b 4611686018427387904 with h2 | h2 | h2
  · go_enter Try.func21, Try.ntmps21
    go_wp2
    go_ret
    exact ⟨ret1 (by unfold nearI abI; (try simp only [wrap64, wrap32, IntKind.wrap_u64, IntKind.wrap_i64, IntKind.wrap_u32, IntKind.wrap_i32, IntKind.wrap_u8, IntKind.wrap_u16]) <;> omega), rfl⟩
  · subst h2
    go_enter Try.func21, Try.ntmps21
    go_wp2
    go_ret
    exact ⟨ret1 (by unfold nearI abI; (try simp only [wrap64, wrap32, IntKind.wrap_u64, IntKind.wrap_i64, IntKind.wrap_u32, IntKind.wrap_i32, IntKind.wrap_u8, IntKind.wrap_u16]) <;> omega), rfl⟩
  · go_enter Try.func21, Try.ntmps21
    go_wp2
    go_ret
    exact ⟨ret1 (by unfold nearI abI; (try simp only [wrap64, wrap32, IntKind.wrap_u64, IntKind.wrap_i64, IntKind.wrap_u32, IntKind.wrap_i32, IntKind.wrap_u8, IntKind.wrap_u16]) <;> omega), rfl⟩
set_option maxHeartbeats 800000 in
theorem prec_any (a : Int) (g : -9223372036854775808 ≤ a) (g' : a ≤ 9223372036854775807) (w : World) :
    Calls Try.prog 23 #[.int .i64 a] w fun e w' => e = .returned (.int .i64 (precI a)) ∧ w = w' := by
  have hr := logI_range (max a 1 - 1) (by omega)
  have c1 := flog_any (max a 1 - 1) (by omega) (by omega)
  have hv : precI a = logI (max a 1 - 1) - 31 := rfl
  rw [hv]
  rcases Int.lt_trichotomy a 1 with h1 | h1 | h1
  · rw [show max a 1 - 1 = 0 by omega] at *
    generalize logI 0 = l at *
    go_enter Try.func23, Try.ntmps23
    go_wp2_with fail
    (with_reducible refine (c1 _).mono ?_)
    rintro e w1 ⟨rfl, rfl⟩
    go_wp2_with fail
    go_ret
    exact ⟨ret1 (by (try simp only [wrap64, wrap32, IntKind.wrap_u64, IntKind.wrap_i64, IntKind.wrap_u32, IntKind.wrap_i32, IntKind.wrap_u8, IntKind.wrap_u16]) <;> omega), rfl⟩
  · subst h1
    rw [show max (1 : Int) 1 - 1 = 0 by omega] at *
    generalize logI 0 = l at *
    go_enter Try.func23, Try.ntmps23
    go_wp2_with fail
    (with_reducible refine (c1 _).mono ?_)
    rintro e w1 ⟨rfl, rfl⟩
    go_wp2_with fail
    go_ret
    exact ⟨ret1 (by (try simp only [wrap64, wrap32, IntKind.wrap_u64, IntKind.wrap_i64, IntKind.wrap_u32, IntKind.wrap_i32, IntKind.wrap_u8, IntKind.wrap_u16]) <;> omega), rfl⟩
  · rw [show max a 1 - 1 = a - 1 by omega] at *
    generalize logI (a - 1) = l at *
    go_enter Try.func23, Try.ntmps23
    go_wp2_with fail
    (with_reducible refine (c1 _).mono ?_)
    rintro e w1 ⟨rfl, rfl⟩
    go_wp2_with fail
    go_ret
    exact ⟨ret1 (by (try simp only [wrap64, wrap32, IntKind.wrap_u64, IntKind.wrap_i64, IntKind.wrap_u32, IntKind.wrap_i32, IntKind.wrap_u8, IntKind.wrap_u16]) <;> omega), rfl⟩
end Go.Proofs.Ytpolcaghofnahaa.W
