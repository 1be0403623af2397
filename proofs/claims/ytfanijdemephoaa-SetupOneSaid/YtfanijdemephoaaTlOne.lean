/- SetupOne: for every field, every floating-point number and every number, what is standard but for that field has no fault, or that field alone, or (the least poll) the greatest poll alone. No condition. -/
import Derived.Test.YtfanijdemephoaaStY
import Derived.Test.YtfanijdemephoaaRows
import Derived.Test.YtfanijdemephoaaWdefs
import Derived.OpenShut
import Derived.Lib.Hide
import Derived.WalkKit
import Derived.WalkSpells
import Derived.WalkLawsBesides
import Derived.Handy
import Derived.Laws.Bits64b
import Derived.IntWalk
import Derived.BigQuiet
import Derived.Deep.QuietTactic
import Derived.Deep.DeepCutAuto
import Derived.Deep.RegionWith
import Derived.OneCell
import Derived.Lib.Zigzag
import Derived.Test.YtfanijdemephoaaRowS
import Derived.ProofKit
import Derived.ShutString
import Derived.ChangeOld
import Derived.Below
namespace Go.Proofs.Ytfanijdemephoaa.SetupOne
open Go.Proofs.Ytfanijdemephoaa.W
open Go.ChangeShapes Go.WideShapes Go.ChangeAt Go.RowKit
open Go.ChangeMaps (open_string shut_string)
set_option linter.unusedVariables false
theorem own : ownKnob Try.prog.godebug = none := by kernel_rfl
theorem laidOut : laidOutB Try.prog = true := by kernel_rfl
open Go.Sort
set_option linter.unusedSimpArgs false
theorem std_val : stdC.val = .agg #[.float .f64 4593671619917905920, .float .f64 4643985272004935680, .float .f64 4652007308841189376, .float .f64 4557750909289998844, .float .f64 4534972062662729065, .float .f64 4609434218613702656, .float .f64 4616189618054758400, .int .i64 6, .int .i64 10, .int .i64 0, .int .i64 1, .int .i64 3] := rfl
theorem of_typed (k : Nat) (f : Nat) (n : Int) (k0 : 1 ≤ k) (k1 : k ≤ 12) (hf : f < 18446744073709551616) (h0 : -9223372036854775808 ≤ n) (h1 : n ≤ 9223372036854775807) : (cfOf k f n).Typed := by
  have hk : k = 1 ∨ k = 2 ∨ k = 3 ∨ k = 4 ∨ k = 5 ∨ k = 6 ∨ k = 7 ∨ k = 8 ∨ k = 9 ∨ k = 10 ∨ k = 11 ∨ k = 12 := by omega
  rcases hk with rfl | rfl | rfl | rfl | rfl | rfl | rfl | rfl | rfl | rfl | rfl | rfl
  · exact ⟨hf, std_typed.watch, std_typed.panic, std_typed.maxrate, std_typed.phi, std_typed.maxdist, std_typed.gate, std_typed.minpoll, std_typed.maxpoll, std_typed.burst, std_typed.minsane, std_typed.minleft⟩
  · exact ⟨std_typed.step, hf, std_typed.panic, std_typed.maxrate, std_typed.phi, std_typed.maxdist, std_typed.gate, std_typed.minpoll, std_typed.maxpoll, std_typed.burst, std_typed.minsane, std_typed.minleft⟩
  · exact ⟨std_typed.step, std_typed.watch, hf, std_typed.maxrate, std_typed.phi, std_typed.maxdist, std_typed.gate, std_typed.minpoll, std_typed.maxpoll, std_typed.burst, std_typed.minsane, std_typed.minleft⟩
  · exact ⟨std_typed.step, std_typed.watch, std_typed.panic, hf, std_typed.phi, std_typed.maxdist, std_typed.gate, std_typed.minpoll, std_typed.maxpoll, std_typed.burst, std_typed.minsane, std_typed.minleft⟩
  · exact ⟨std_typed.step, std_typed.watch, std_typed.panic, std_typed.maxrate, hf, std_typed.maxdist, std_typed.gate, std_typed.minpoll, std_typed.maxpoll, std_typed.burst, std_typed.minsane, std_typed.minleft⟩
  · exact ⟨std_typed.step, std_typed.watch, std_typed.panic, std_typed.maxrate, std_typed.phi, hf, std_typed.gate, std_typed.minpoll, std_typed.maxpoll, std_typed.burst, std_typed.minsane, std_typed.minleft⟩
  · exact ⟨std_typed.step, std_typed.watch, std_typed.panic, std_typed.maxrate, std_typed.phi, std_typed.maxdist, hf, std_typed.minpoll, std_typed.maxpoll, std_typed.burst, std_typed.minsane, std_typed.minleft⟩
  · exact ⟨std_typed.step, std_typed.watch, std_typed.panic, std_typed.maxrate, std_typed.phi, std_typed.maxdist, std_typed.gate, ⟨h0, h1⟩, std_typed.maxpoll, std_typed.burst, std_typed.minsane, std_typed.minleft⟩
  · exact ⟨std_typed.step, std_typed.watch, std_typed.panic, std_typed.maxrate, std_typed.phi, std_typed.maxdist, std_typed.gate, std_typed.minpoll, ⟨h0, h1⟩, std_typed.burst, std_typed.minsane, std_typed.minleft⟩
  · exact ⟨std_typed.step, std_typed.watch, std_typed.panic, std_typed.maxrate, std_typed.phi, std_typed.maxdist, std_typed.gate, std_typed.minpoll, std_typed.maxpoll, ⟨h0, h1⟩, std_typed.minsane, std_typed.minleft⟩
  · exact ⟨std_typed.step, std_typed.watch, std_typed.panic, std_typed.maxrate, std_typed.phi, std_typed.maxdist, std_typed.gate, std_typed.minpoll, std_typed.maxpoll, std_typed.burst, ⟨h0, h1⟩, std_typed.minleft⟩
  · exact ⟨std_typed.step, std_typed.watch, std_typed.panic, std_typed.maxrate, std_typed.phi, std_typed.maxdist, std_typed.gate, std_typed.minpoll, std_typed.maxpoll, std_typed.burst, std_typed.minsane, ⟨h0, h1⟩⟩
set_option maxRecDepth 100000 in
set_option maxHeartbeats 12800000 in
theorem walk1 (field : Int) (f : Nat) (n : Int) (ht : field.tmod 12 = 0) (b0 : 0 ≤ field) (b1 : field ≤ 255) (hf : f < 18446744073709551616) (h0 : -9223372036854775808 ≤ n) (h1 : n ≤ 9223372036854775807) (w : World) :
    Calls Try.prog 4 #[.int .u8 field, .float .f64 f, .int .i64 n] w fun e w' => e = .returned (.bool true) ∧ Below w.heap.size w w' := by
  have c1 := gstd_any
  rw [std_val] at c1
  have c5 := shown10_any
  have c6 := gfaults_any (cfOf 1 f n) (of_typed 1 f n (by decide) (by decide) hf h0 h1)
  have hv : (cfOf 1 f n).val = .agg #[.float .f64 f, .float .f64 4643985272004935680, .float .f64 4652007308841189376, .float .f64 4557750909289998844, .float .f64 4534972062662729065, .float .f64 4609434218613702656, .float .f64 4616189618054758400, .int .i64 6, .int .i64 10, .int .i64 0, .int .i64 1, .int .i64 3] := rfl
  have hq : upTo (cfOf 1 f n) 12 = [] ∨ upTo (cfOf 1 f n) 12 = [1] := by
    rcases one_upTo 1 f n (by decide) (by decide) with h | ⟨q, h, hq⟩
    · exact .inl h
    · obtain rfl : q = 1 := by omega
      exact .inr h
  rw [hv] at c6
  clear hf h0 h1 hv
  rcases hq with hq | hq
  · rw [hq] at c6
    clear hq
    go_enter Try.func4, Try.ntmps4
    go_wp2_with fail
    (with_reducible refine (c1 _).mono ?_)
    rintro e w1 ⟨rfl, hB1⟩
    have hb2 : Below w.heap.size w (w1.alloc (.cells #[.float .f64 f, .float .f64 4643985272004935680, .float .f64 4652007308841189376, .float .f64 4557750909289998844, .float .f64 4534972062662729065, .float .f64 4609434218613702656, .float .f64 4616189618054758400, .int .i64 6, .int .i64 10, .int .i64 0, .int .i64 1, .int .i64 3] 24)) := hB1.alloc hB1.size _
    have hx2 := heap_alloc_new w1 (.cells #[.float .f64 f, .float .f64 4643985272004935680, .float .f64 4652007308841189376, .float .f64 4557750909289998844, .float .f64 4534972062662729065, .float .f64 4609434218613702656, .float .f64 4616189618054758400, .int .i64 6, .int .i64 10, .int .i64 0, .int .i64 1, .int .i64 3] 24)
    clear hB1
    go_wp2_with fail
    generalize w1.alloc (.cells #[.float .f64 f, .float .f64 4643985272004935680, .float .f64 4652007308841189376, .float .f64 4557750909289998844, .float .f64 4534972062662729065, .float .f64 4609434218613702656, .float .f64 4616189618054758400, .int .i64 6, .int .i64 10, .int .i64 0, .int .i64 1, .int .i64 3] 24) = w2 at *
    (with_reducible refine (c6 _).mono ?_)
    rintro e w3 ⟨v, rfl, hs, hB3⟩
    obtain ⟨vx, vc, rfl⟩ := hs.slice
    have hb3 := hb2.trans (hB3.mono hb2.size)
    clear hs hB3 hb2 hx2
    simp only [List.length_nil] at *
    go_wp2_with fail
    (with_reducible refine (c5 _).mono ?_)
    rintro e w4 ⟨rfl, hB4⟩
    have hBf := hb3.trans (hB4.mono hb3.size)
    go_wp2_with fail
    go_ret
    exact ⟨rfl, hBf⟩
  · rw [hq] at c6
    clear hq
    go_enter Try.func4, Try.ntmps4
    go_wp2_with fail
    (with_reducible refine (c1 _).mono ?_)
    rintro e w1 ⟨rfl, hB1⟩
    have hb2 : Below w.heap.size w (w1.alloc (.cells #[.float .f64 f, .float .f64 4643985272004935680, .float .f64 4652007308841189376, .float .f64 4557750909289998844, .float .f64 4534972062662729065, .float .f64 4609434218613702656, .float .f64 4616189618054758400, .int .i64 6, .int .i64 10, .int .i64 0, .int .i64 1, .int .i64 3] 24)) := hB1.alloc hB1.size _
    have hx2 := heap_alloc_new w1 (.cells #[.float .f64 f, .float .f64 4643985272004935680, .float .f64 4652007308841189376, .float .f64 4557750909289998844, .float .f64 4534972062662729065, .float .f64 4609434218613702656, .float .f64 4616189618054758400, .int .i64 6, .int .i64 10, .int .i64 0, .int .i64 1, .int .i64 3] 24)
    clear hB1
    go_wp2_with fail
    generalize w1.alloc (.cells #[.float .f64 f, .float .f64 4643985272004935680, .float .f64 4652007308841189376, .float .f64 4557750909289998844, .float .f64 4534972062662729065, .float .f64 4609434218613702656, .float .f64 4616189618054758400, .int .i64 6, .int .i64 10, .int .i64 0, .int .i64 1, .int .i64 3] 24) = w2 at *
    (with_reducible refine (c6 _).mono ?_)
    rintro e w3 ⟨v, rfl, hs, hB3⟩
    rcases hs with ⟨_, _, _, _, hnil⟩ | ⟨b, off, cap, rfl, hb, hcs⟩
    · cases hnil
    · have l0 := hcs 0 1 rfl 0 _ rfl
      simp only [Nat.zero_mul, Nat.add_zero] at l0
      have hb3 := hb2.trans (hB3.mono hb2.size)
      clear hcs hB3 hb2 hx2 hb
      simp only [List.length_singleton] at *
      go_wp2_with fail
      (with_reducible refine (c5 _).mono ?_)
      rintro e w4 ⟨rfl, hB4⟩
      have l1 := (hB4.cell (block_lt_of_cell l0)).trans l0
      have hBf := hb3.trans (hB4.mono hb3.size)
      clear l0 hB4 hb3
      go_wp2_with fail
      go_ret
      exact ⟨rfl, hBf⟩
set_option maxRecDepth 100000 in
set_option maxHeartbeats 12800000 in
theorem walk2 (field : Int) (f : Nat) (n : Int) (ht : field.tmod 12 = 1) (b0 : 0 ≤ field) (b1 : field ≤ 255) (hf : f < 18446744073709551616) (h0 : -9223372036854775808 ≤ n) (h1 : n ≤ 9223372036854775807) (w : World) :
    Calls Try.prog 4 #[.int .u8 field, .float .f64 f, .int .i64 n] w fun e w' => e = .returned (.bool true) ∧ Below w.heap.size w w' := by
  have c1 := gstd_any
  rw [std_val] at c1
  have c5 := shown10_any
  have c6 := gfaults_any (cfOf 2 f n) (of_typed 2 f n (by decide) (by decide) hf h0 h1)
  have hv : (cfOf 2 f n).val = .agg #[.float .f64 4593671619917905920, .float .f64 f, .float .f64 4652007308841189376, .float .f64 4557750909289998844, .float .f64 4534972062662729065, .float .f64 4609434218613702656, .float .f64 4616189618054758400, .int .i64 6, .int .i64 10, .int .i64 0, .int .i64 1, .int .i64 3] := rfl
  have hq : upTo (cfOf 2 f n) 12 = [] ∨ upTo (cfOf 2 f n) 12 = [2] := by
    rcases one_upTo 2 f n (by decide) (by decide) with h | ⟨q, h, hq⟩
    · exact .inl h
    · obtain rfl : q = 2 := by omega
      exact .inr h
  rw [hv] at c6
  clear hf h0 h1 hv
  rcases hq with hq | hq
  · rw [hq] at c6
    clear hq
    go_enter Try.func4, Try.ntmps4
    go_wp2_with fail
    (with_reducible refine (c1 _).mono ?_)
    rintro e w1 ⟨rfl, hB1⟩
    have hb2 : Below w.heap.size w (w1.alloc (.cells #[.float .f64 4593671619917905920, .float .f64 f, .float .f64 4652007308841189376, .float .f64 4557750909289998844, .float .f64 4534972062662729065, .float .f64 4609434218613702656, .float .f64 4616189618054758400, .int .i64 6, .int .i64 10, .int .i64 0, .int .i64 1, .int .i64 3] 24)) := hB1.alloc hB1.size _
    have hx2 := heap_alloc_new w1 (.cells #[.float .f64 4593671619917905920, .float .f64 f, .float .f64 4652007308841189376, .float .f64 4557750909289998844, .float .f64 4534972062662729065, .float .f64 4609434218613702656, .float .f64 4616189618054758400, .int .i64 6, .int .i64 10, .int .i64 0, .int .i64 1, .int .i64 3] 24)
    clear hB1
    go_wp2_with fail
    generalize w1.alloc (.cells #[.float .f64 4593671619917905920, .float .f64 f, .float .f64 4652007308841189376, .float .f64 4557750909289998844, .float .f64 4534972062662729065, .float .f64 4609434218613702656, .float .f64 4616189618054758400, .int .i64 6, .int .i64 10, .int .i64 0, .int .i64 1, .int .i64 3] 24) = w2 at *
    (with_reducible refine (c6 _).mono ?_)
    rintro e w3 ⟨v, rfl, hs, hB3⟩
    obtain ⟨vx, vc, rfl⟩ := hs.slice
    have hb3 := hb2.trans (hB3.mono hb2.size)
    clear hs hB3 hb2 hx2
    simp only [List.length_nil] at *
    go_wp2_with fail
    (with_reducible refine (c5 _).mono ?_)
    rintro e w4 ⟨rfl, hB4⟩
    have hBf := hb3.trans (hB4.mono hb3.size)
    go_wp2_with fail
    go_ret
    exact ⟨rfl, hBf⟩
  · rw [hq] at c6
    clear hq
    go_enter Try.func4, Try.ntmps4
    go_wp2_with fail
    (with_reducible refine (c1 _).mono ?_)
    rintro e w1 ⟨rfl, hB1⟩
    have hb2 : Below w.heap.size w (w1.alloc (.cells #[.float .f64 4593671619917905920, .float .f64 f, .float .f64 4652007308841189376, .float .f64 4557750909289998844, .float .f64 4534972062662729065, .float .f64 4609434218613702656, .float .f64 4616189618054758400, .int .i64 6, .int .i64 10, .int .i64 0, .int .i64 1, .int .i64 3] 24)) := hB1.alloc hB1.size _
    have hx2 := heap_alloc_new w1 (.cells #[.float .f64 4593671619917905920, .float .f64 f, .float .f64 4652007308841189376, .float .f64 4557750909289998844, .float .f64 4534972062662729065, .float .f64 4609434218613702656, .float .f64 4616189618054758400, .int .i64 6, .int .i64 10, .int .i64 0, .int .i64 1, .int .i64 3] 24)
    clear hB1
    go_wp2_with fail
    generalize w1.alloc (.cells #[.float .f64 4593671619917905920, .float .f64 f, .float .f64 4652007308841189376, .float .f64 4557750909289998844, .float .f64 4534972062662729065, .float .f64 4609434218613702656, .float .f64 4616189618054758400, .int .i64 6, .int .i64 10, .int .i64 0, .int .i64 1, .int .i64 3] 24) = w2 at *
    (with_reducible refine (c6 _).mono ?_)
    rintro e w3 ⟨v, rfl, hs, hB3⟩
    rcases hs with ⟨_, _, _, _, hnil⟩ | ⟨b, off, cap, rfl, hb, hcs⟩
    · cases hnil
    · have l0 := hcs 0 2 rfl 0 _ rfl
      simp only [Nat.zero_mul, Nat.add_zero] at l0
      have hb3 := hb2.trans (hB3.mono hb2.size)
      clear hcs hB3 hb2 hx2 hb
      simp only [List.length_singleton] at *
      go_wp2_with fail
      (with_reducible refine (c5 _).mono ?_)
      rintro e w4 ⟨rfl, hB4⟩
      have l1 := (hB4.cell (block_lt_of_cell l0)).trans l0
      have hBf := hb3.trans (hB4.mono hb3.size)
      clear l0 hB4 hb3
      go_wp2_with fail
      go_ret
      exact ⟨rfl, hBf⟩
set_option maxRecDepth 100000 in
set_option maxHeartbeats 12800000 in
theorem walk3 (field : Int) (f : Nat) (n : Int) (ht : field.tmod 12 = 2) (b0 : 0 ≤ field) (b1 : field ≤ 255) (hf : f < 18446744073709551616) (h0 : -9223372036854775808 ≤ n) (h1 : n ≤ 9223372036854775807) (w : World) :
    Calls Try.prog 4 #[.int .u8 field, .float .f64 f, .int .i64 n] w fun e w' => e = .returned (.bool true) ∧ Below w.heap.size w w' := by
  have c1 := gstd_any
  rw [std_val] at c1
  have c5 := shown10_any
  have c6 := gfaults_any (cfOf 3 f n) (of_typed 3 f n (by decide) (by decide) hf h0 h1)
  have hv : (cfOf 3 f n).val = .agg #[.float .f64 4593671619917905920, .float .f64 4643985272004935680, .float .f64 f, .float .f64 4557750909289998844, .float .f64 4534972062662729065, .float .f64 4609434218613702656, .float .f64 4616189618054758400, .int .i64 6, .int .i64 10, .int .i64 0, .int .i64 1, .int .i64 3] := rfl
  have hq : upTo (cfOf 3 f n) 12 = [] ∨ upTo (cfOf 3 f n) 12 = [3] := by
    rcases one_upTo 3 f n (by decide) (by decide) with h | ⟨q, h, hq⟩
    · exact .inl h
    · obtain rfl : q = 3 := by omega
      exact .inr h
  rw [hv] at c6
  clear hf h0 h1 hv
  rcases hq with hq | hq
  · rw [hq] at c6
    clear hq
    go_enter Try.func4, Try.ntmps4
    go_wp2_with fail
    (with_reducible refine (c1 _).mono ?_)
    rintro e w1 ⟨rfl, hB1⟩
    have hb2 : Below w.heap.size w (w1.alloc (.cells #[.float .f64 4593671619917905920, .float .f64 4643985272004935680, .float .f64 f, .float .f64 4557750909289998844, .float .f64 4534972062662729065, .float .f64 4609434218613702656, .float .f64 4616189618054758400, .int .i64 6, .int .i64 10, .int .i64 0, .int .i64 1, .int .i64 3] 24)) := hB1.alloc hB1.size _
    have hx2 := heap_alloc_new w1 (.cells #[.float .f64 4593671619917905920, .float .f64 4643985272004935680, .float .f64 f, .float .f64 4557750909289998844, .float .f64 4534972062662729065, .float .f64 4609434218613702656, .float .f64 4616189618054758400, .int .i64 6, .int .i64 10, .int .i64 0, .int .i64 1, .int .i64 3] 24)
    clear hB1
    go_wp2_with fail
    generalize w1.alloc (.cells #[.float .f64 4593671619917905920, .float .f64 4643985272004935680, .float .f64 f, .float .f64 4557750909289998844, .float .f64 4534972062662729065, .float .f64 4609434218613702656, .float .f64 4616189618054758400, .int .i64 6, .int .i64 10, .int .i64 0, .int .i64 1, .int .i64 3] 24) = w2 at *
    (with_reducible refine (c6 _).mono ?_)
    rintro e w3 ⟨v, rfl, hs, hB3⟩
    obtain ⟨vx, vc, rfl⟩ := hs.slice
    have hb3 := hb2.trans (hB3.mono hb2.size)
    clear hs hB3 hb2 hx2
    simp only [List.length_nil] at *
    go_wp2_with fail
    (with_reducible refine (c5 _).mono ?_)
    rintro e w4 ⟨rfl, hB4⟩
    have hBf := hb3.trans (hB4.mono hb3.size)
    go_wp2_with fail
    go_ret
    exact ⟨rfl, hBf⟩
  · rw [hq] at c6
    clear hq
    go_enter Try.func4, Try.ntmps4
    go_wp2_with fail
    (with_reducible refine (c1 _).mono ?_)
    rintro e w1 ⟨rfl, hB1⟩
    have hb2 : Below w.heap.size w (w1.alloc (.cells #[.float .f64 4593671619917905920, .float .f64 4643985272004935680, .float .f64 f, .float .f64 4557750909289998844, .float .f64 4534972062662729065, .float .f64 4609434218613702656, .float .f64 4616189618054758400, .int .i64 6, .int .i64 10, .int .i64 0, .int .i64 1, .int .i64 3] 24)) := hB1.alloc hB1.size _
    have hx2 := heap_alloc_new w1 (.cells #[.float .f64 4593671619917905920, .float .f64 4643985272004935680, .float .f64 f, .float .f64 4557750909289998844, .float .f64 4534972062662729065, .float .f64 4609434218613702656, .float .f64 4616189618054758400, .int .i64 6, .int .i64 10, .int .i64 0, .int .i64 1, .int .i64 3] 24)
    clear hB1
    go_wp2_with fail
    generalize w1.alloc (.cells #[.float .f64 4593671619917905920, .float .f64 4643985272004935680, .float .f64 f, .float .f64 4557750909289998844, .float .f64 4534972062662729065, .float .f64 4609434218613702656, .float .f64 4616189618054758400, .int .i64 6, .int .i64 10, .int .i64 0, .int .i64 1, .int .i64 3] 24) = w2 at *
    (with_reducible refine (c6 _).mono ?_)
    rintro e w3 ⟨v, rfl, hs, hB3⟩
    rcases hs with ⟨_, _, _, _, hnil⟩ | ⟨b, off, cap, rfl, hb, hcs⟩
    · cases hnil
    · have l0 := hcs 0 3 rfl 0 _ rfl
      simp only [Nat.zero_mul, Nat.add_zero] at l0
      have hb3 := hb2.trans (hB3.mono hb2.size)
      clear hcs hB3 hb2 hx2 hb
      simp only [List.length_singleton] at *
      go_wp2_with fail
      (with_reducible refine (c5 _).mono ?_)
      rintro e w4 ⟨rfl, hB4⟩
      have l1 := (hB4.cell (block_lt_of_cell l0)).trans l0
      have hBf := hb3.trans (hB4.mono hb3.size)
      clear l0 hB4 hb3
      go_wp2_with fail
      go_ret
      exact ⟨rfl, hBf⟩
set_option maxRecDepth 100000 in
set_option maxHeartbeats 12800000 in
theorem walk4 (field : Int) (f : Nat) (n : Int) (ht : field.tmod 12 = 3) (b0 : 0 ≤ field) (b1 : field ≤ 255) (hf : f < 18446744073709551616) (h0 : -9223372036854775808 ≤ n) (h1 : n ≤ 9223372036854775807) (w : World) :
    Calls Try.prog 4 #[.int .u8 field, .float .f64 f, .int .i64 n] w fun e w' => e = .returned (.bool true) ∧ Below w.heap.size w w' := by
  have c1 := gstd_any
  rw [std_val] at c1
  have c5 := shown10_any
  have c6 := gfaults_any (cfOf 4 f n) (of_typed 4 f n (by decide) (by decide) hf h0 h1)
  have hv : (cfOf 4 f n).val = .agg #[.float .f64 4593671619917905920, .float .f64 4643985272004935680, .float .f64 4652007308841189376, .float .f64 f, .float .f64 4534972062662729065, .float .f64 4609434218613702656, .float .f64 4616189618054758400, .int .i64 6, .int .i64 10, .int .i64 0, .int .i64 1, .int .i64 3] := rfl
  have hq : upTo (cfOf 4 f n) 12 = [] ∨ upTo (cfOf 4 f n) 12 = [4] := by
    rcases one_upTo 4 f n (by decide) (by decide) with h | ⟨q, h, hq⟩
    · exact .inl h
    · obtain rfl : q = 4 := by omega
      exact .inr h
  rw [hv] at c6
  clear hf h0 h1 hv
  rcases hq with hq | hq
  · rw [hq] at c6
    clear hq
    go_enter Try.func4, Try.ntmps4
    go_wp2_with fail
    (with_reducible refine (c1 _).mono ?_)
    rintro e w1 ⟨rfl, hB1⟩
    have hb2 : Below w.heap.size w (w1.alloc (.cells #[.float .f64 4593671619917905920, .float .f64 4643985272004935680, .float .f64 4652007308841189376, .float .f64 f, .float .f64 4534972062662729065, .float .f64 4609434218613702656, .float .f64 4616189618054758400, .int .i64 6, .int .i64 10, .int .i64 0, .int .i64 1, .int .i64 3] 24)) := hB1.alloc hB1.size _
    have hx2 := heap_alloc_new w1 (.cells #[.float .f64 4593671619917905920, .float .f64 4643985272004935680, .float .f64 4652007308841189376, .float .f64 f, .float .f64 4534972062662729065, .float .f64 4609434218613702656, .float .f64 4616189618054758400, .int .i64 6, .int .i64 10, .int .i64 0, .int .i64 1, .int .i64 3] 24)
    clear hB1
    go_wp2_with fail
    generalize w1.alloc (.cells #[.float .f64 4593671619917905920, .float .f64 4643985272004935680, .float .f64 4652007308841189376, .float .f64 f, .float .f64 4534972062662729065, .float .f64 4609434218613702656, .float .f64 4616189618054758400, .int .i64 6, .int .i64 10, .int .i64 0, .int .i64 1, .int .i64 3] 24) = w2 at *
    (with_reducible refine (c6 _).mono ?_)
    rintro e w3 ⟨v, rfl, hs, hB3⟩
    obtain ⟨vx, vc, rfl⟩ := hs.slice
    have hb3 := hb2.trans (hB3.mono hb2.size)
    clear hs hB3 hb2 hx2
    simp only [List.length_nil] at *
    go_wp2_with fail
    (with_reducible refine (c5 _).mono ?_)
    rintro e w4 ⟨rfl, hB4⟩
    have hBf := hb3.trans (hB4.mono hb3.size)
    go_wp2_with fail
    go_ret
    exact ⟨rfl, hBf⟩
  · rw [hq] at c6
    clear hq
    go_enter Try.func4, Try.ntmps4
    go_wp2_with fail
    (with_reducible refine (c1 _).mono ?_)
    rintro e w1 ⟨rfl, hB1⟩
    have hb2 : Below w.heap.size w (w1.alloc (.cells #[.float .f64 4593671619917905920, .float .f64 4643985272004935680, .float .f64 4652007308841189376, .float .f64 f, .float .f64 4534972062662729065, .float .f64 4609434218613702656, .float .f64 4616189618054758400, .int .i64 6, .int .i64 10, .int .i64 0, .int .i64 1, .int .i64 3] 24)) := hB1.alloc hB1.size _
    have hx2 := heap_alloc_new w1 (.cells #[.float .f64 4593671619917905920, .float .f64 4643985272004935680, .float .f64 4652007308841189376, .float .f64 f, .float .f64 4534972062662729065, .float .f64 4609434218613702656, .float .f64 4616189618054758400, .int .i64 6, .int .i64 10, .int .i64 0, .int .i64 1, .int .i64 3] 24)
    clear hB1
    go_wp2_with fail
    generalize w1.alloc (.cells #[.float .f64 4593671619917905920, .float .f64 4643985272004935680, .float .f64 4652007308841189376, .float .f64 f, .float .f64 4534972062662729065, .float .f64 4609434218613702656, .float .f64 4616189618054758400, .int .i64 6, .int .i64 10, .int .i64 0, .int .i64 1, .int .i64 3] 24) = w2 at *
    (with_reducible refine (c6 _).mono ?_)
    rintro e w3 ⟨v, rfl, hs, hB3⟩
    rcases hs with ⟨_, _, _, _, hnil⟩ | ⟨b, off, cap, rfl, hb, hcs⟩
    · cases hnil
    · have l0 := hcs 0 4 rfl 0 _ rfl
      simp only [Nat.zero_mul, Nat.add_zero] at l0
      have hb3 := hb2.trans (hB3.mono hb2.size)
      clear hcs hB3 hb2 hx2 hb
      simp only [List.length_singleton] at *
      go_wp2_with fail
      (with_reducible refine (c5 _).mono ?_)
      rintro e w4 ⟨rfl, hB4⟩
      have l1 := (hB4.cell (block_lt_of_cell l0)).trans l0
      have hBf := hb3.trans (hB4.mono hb3.size)
      clear l0 hB4 hb3
      go_wp2_with fail
      go_ret
      exact ⟨rfl, hBf⟩
set_option maxRecDepth 100000 in
set_option maxHeartbeats 12800000 in
theorem walk5 (field : Int) (f : Nat) (n : Int) (ht : field.tmod 12 = 4) (b0 : 0 ≤ field) (b1 : field ≤ 255) (hf : f < 18446744073709551616) (h0 : -9223372036854775808 ≤ n) (h1 : n ≤ 9223372036854775807) (w : World) :
    Calls Try.prog 4 #[.int .u8 field, .float .f64 f, .int .i64 n] w fun e w' => e = .returned (.bool true) ∧ Below w.heap.size w w' := by
  have c1 := gstd_any
  rw [std_val] at c1
  have c5 := shown10_any
  have c6 := gfaults_any (cfOf 5 f n) (of_typed 5 f n (by decide) (by decide) hf h0 h1)
  have hv : (cfOf 5 f n).val = .agg #[.float .f64 4593671619917905920, .float .f64 4643985272004935680, .float .f64 4652007308841189376, .float .f64 4557750909289998844, .float .f64 f, .float .f64 4609434218613702656, .float .f64 4616189618054758400, .int .i64 6, .int .i64 10, .int .i64 0, .int .i64 1, .int .i64 3] := rfl
  have hq : upTo (cfOf 5 f n) 12 = [] ∨ upTo (cfOf 5 f n) 12 = [5] := by
    rcases one_upTo 5 f n (by decide) (by decide) with h | ⟨q, h, hq⟩
    · exact .inl h
    · obtain rfl : q = 5 := by omega
      exact .inr h
  rw [hv] at c6
  clear hf h0 h1 hv
  rcases hq with hq | hq
  · rw [hq] at c6
    clear hq
    go_enter Try.func4, Try.ntmps4
    go_wp2_with fail
    (with_reducible refine (c1 _).mono ?_)
    rintro e w1 ⟨rfl, hB1⟩
    have hb2 : Below w.heap.size w (w1.alloc (.cells #[.float .f64 4593671619917905920, .float .f64 4643985272004935680, .float .f64 4652007308841189376, .float .f64 4557750909289998844, .float .f64 f, .float .f64 4609434218613702656, .float .f64 4616189618054758400, .int .i64 6, .int .i64 10, .int .i64 0, .int .i64 1, .int .i64 3] 24)) := hB1.alloc hB1.size _
    have hx2 := heap_alloc_new w1 (.cells #[.float .f64 4593671619917905920, .float .f64 4643985272004935680, .float .f64 4652007308841189376, .float .f64 4557750909289998844, .float .f64 f, .float .f64 4609434218613702656, .float .f64 4616189618054758400, .int .i64 6, .int .i64 10, .int .i64 0, .int .i64 1, .int .i64 3] 24)
    clear hB1
    go_wp2_with fail
    generalize w1.alloc (.cells #[.float .f64 4593671619917905920, .float .f64 4643985272004935680, .float .f64 4652007308841189376, .float .f64 4557750909289998844, .float .f64 f, .float .f64 4609434218613702656, .float .f64 4616189618054758400, .int .i64 6, .int .i64 10, .int .i64 0, .int .i64 1, .int .i64 3] 24) = w2 at *
    (with_reducible refine (c6 _).mono ?_)
    rintro e w3 ⟨v, rfl, hs, hB3⟩
    obtain ⟨vx, vc, rfl⟩ := hs.slice
    have hb3 := hb2.trans (hB3.mono hb2.size)
    clear hs hB3 hb2 hx2
    simp only [List.length_nil] at *
    go_wp2_with fail
    (with_reducible refine (c5 _).mono ?_)
    rintro e w4 ⟨rfl, hB4⟩
    have hBf := hb3.trans (hB4.mono hb3.size)
    go_wp2_with fail
    go_ret
    exact ⟨rfl, hBf⟩
  · rw [hq] at c6
    clear hq
    go_enter Try.func4, Try.ntmps4
    go_wp2_with fail
    (with_reducible refine (c1 _).mono ?_)
    rintro e w1 ⟨rfl, hB1⟩
    have hb2 : Below w.heap.size w (w1.alloc (.cells #[.float .f64 4593671619917905920, .float .f64 4643985272004935680, .float .f64 4652007308841189376, .float .f64 4557750909289998844, .float .f64 f, .float .f64 4609434218613702656, .float .f64 4616189618054758400, .int .i64 6, .int .i64 10, .int .i64 0, .int .i64 1, .int .i64 3] 24)) := hB1.alloc hB1.size _
    have hx2 := heap_alloc_new w1 (.cells #[.float .f64 4593671619917905920, .float .f64 4643985272004935680, .float .f64 4652007308841189376, .float .f64 4557750909289998844, .float .f64 f, .float .f64 4609434218613702656, .float .f64 4616189618054758400, .int .i64 6, .int .i64 10, .int .i64 0, .int .i64 1, .int .i64 3] 24)
    clear hB1
    go_wp2_with fail
    generalize w1.alloc (.cells #[.float .f64 4593671619917905920, .float .f64 4643985272004935680, .float .f64 4652007308841189376, .float .f64 4557750909289998844, .float .f64 f, .float .f64 4609434218613702656, .float .f64 4616189618054758400, .int .i64 6, .int .i64 10, .int .i64 0, .int .i64 1, .int .i64 3] 24) = w2 at *
    (with_reducible refine (c6 _).mono ?_)
    rintro e w3 ⟨v, rfl, hs, hB3⟩
    rcases hs with ⟨_, _, _, _, hnil⟩ | ⟨b, off, cap, rfl, hb, hcs⟩
    · cases hnil
    · have l0 := hcs 0 5 rfl 0 _ rfl
      simp only [Nat.zero_mul, Nat.add_zero] at l0
      have hb3 := hb2.trans (hB3.mono hb2.size)
      clear hcs hB3 hb2 hx2 hb
      simp only [List.length_singleton] at *
      go_wp2_with fail
      (with_reducible refine (c5 _).mono ?_)
      rintro e w4 ⟨rfl, hB4⟩
      have l1 := (hB4.cell (block_lt_of_cell l0)).trans l0
      have hBf := hb3.trans (hB4.mono hb3.size)
      clear l0 hB4 hb3
      go_wp2_with fail
      go_ret
      exact ⟨rfl, hBf⟩
set_option maxRecDepth 100000 in
set_option maxHeartbeats 12800000 in
theorem walk6 (field : Int) (f : Nat) (n : Int) (ht : field.tmod 12 = 5) (b0 : 0 ≤ field) (b1 : field ≤ 255) (hf : f < 18446744073709551616) (h0 : -9223372036854775808 ≤ n) (h1 : n ≤ 9223372036854775807) (w : World) :
    Calls Try.prog 4 #[.int .u8 field, .float .f64 f, .int .i64 n] w fun e w' => e = .returned (.bool true) ∧ Below w.heap.size w w' := by
  have c1 := gstd_any
  rw [std_val] at c1
  have c5 := shown10_any
  have c6 := gfaults_any (cfOf 6 f n) (of_typed 6 f n (by decide) (by decide) hf h0 h1)
  have hv : (cfOf 6 f n).val = .agg #[.float .f64 4593671619917905920, .float .f64 4643985272004935680, .float .f64 4652007308841189376, .float .f64 4557750909289998844, .float .f64 4534972062662729065, .float .f64 f, .float .f64 4616189618054758400, .int .i64 6, .int .i64 10, .int .i64 0, .int .i64 1, .int .i64 3] := rfl
  have hq : upTo (cfOf 6 f n) 12 = [] ∨ upTo (cfOf 6 f n) 12 = [6] := by
    rcases one_upTo 6 f n (by decide) (by decide) with h | ⟨q, h, hq⟩
    · exact .inl h
    · obtain rfl : q = 6 := by omega
      exact .inr h
  rw [hv] at c6
  clear hf h0 h1 hv
  rcases hq with hq | hq
  · rw [hq] at c6
    clear hq
    go_enter Try.func4, Try.ntmps4
    go_wp2_with fail
    (with_reducible refine (c1 _).mono ?_)
    rintro e w1 ⟨rfl, hB1⟩
    have hb2 : Below w.heap.size w (w1.alloc (.cells #[.float .f64 4593671619917905920, .float .f64 4643985272004935680, .float .f64 4652007308841189376, .float .f64 4557750909289998844, .float .f64 4534972062662729065, .float .f64 f, .float .f64 4616189618054758400, .int .i64 6, .int .i64 10, .int .i64 0, .int .i64 1, .int .i64 3] 24)) := hB1.alloc hB1.size _
    have hx2 := heap_alloc_new w1 (.cells #[.float .f64 4593671619917905920, .float .f64 4643985272004935680, .float .f64 4652007308841189376, .float .f64 4557750909289998844, .float .f64 4534972062662729065, .float .f64 f, .float .f64 4616189618054758400, .int .i64 6, .int .i64 10, .int .i64 0, .int .i64 1, .int .i64 3] 24)
    clear hB1
    go_wp2_with fail
    generalize w1.alloc (.cells #[.float .f64 4593671619917905920, .float .f64 4643985272004935680, .float .f64 4652007308841189376, .float .f64 4557750909289998844, .float .f64 4534972062662729065, .float .f64 f, .float .f64 4616189618054758400, .int .i64 6, .int .i64 10, .int .i64 0, .int .i64 1, .int .i64 3] 24) = w2 at *
    (with_reducible refine (c6 _).mono ?_)
    rintro e w3 ⟨v, rfl, hs, hB3⟩
    obtain ⟨vx, vc, rfl⟩ := hs.slice
    have hb3 := hb2.trans (hB3.mono hb2.size)
    clear hs hB3 hb2 hx2
    simp only [List.length_nil] at *
    go_wp2_with fail
    (with_reducible refine (c5 _).mono ?_)
    rintro e w4 ⟨rfl, hB4⟩
    have hBf := hb3.trans (hB4.mono hb3.size)
    go_wp2_with fail
    go_ret
    exact ⟨rfl, hBf⟩
  · rw [hq] at c6
    clear hq
    go_enter Try.func4, Try.ntmps4
    go_wp2_with fail
    (with_reducible refine (c1 _).mono ?_)
    rintro e w1 ⟨rfl, hB1⟩
    have hb2 : Below w.heap.size w (w1.alloc (.cells #[.float .f64 4593671619917905920, .float .f64 4643985272004935680, .float .f64 4652007308841189376, .float .f64 4557750909289998844, .float .f64 4534972062662729065, .float .f64 f, .float .f64 4616189618054758400, .int .i64 6, .int .i64 10, .int .i64 0, .int .i64 1, .int .i64 3] 24)) := hB1.alloc hB1.size _
    have hx2 := heap_alloc_new w1 (.cells #[.float .f64 4593671619917905920, .float .f64 4643985272004935680, .float .f64 4652007308841189376, .float .f64 4557750909289998844, .float .f64 4534972062662729065, .float .f64 f, .float .f64 4616189618054758400, .int .i64 6, .int .i64 10, .int .i64 0, .int .i64 1, .int .i64 3] 24)
    clear hB1
    go_wp2_with fail
    generalize w1.alloc (.cells #[.float .f64 4593671619917905920, .float .f64 4643985272004935680, .float .f64 4652007308841189376, .float .f64 4557750909289998844, .float .f64 4534972062662729065, .float .f64 f, .float .f64 4616189618054758400, .int .i64 6, .int .i64 10, .int .i64 0, .int .i64 1, .int .i64 3] 24) = w2 at *
    (with_reducible refine (c6 _).mono ?_)
    rintro e w3 ⟨v, rfl, hs, hB3⟩
    rcases hs with ⟨_, _, _, _, hnil⟩ | ⟨b, off, cap, rfl, hb, hcs⟩
    · cases hnil
    · have l0 := hcs 0 6 rfl 0 _ rfl
      simp only [Nat.zero_mul, Nat.add_zero] at l0
      have hb3 := hb2.trans (hB3.mono hb2.size)
      clear hcs hB3 hb2 hx2 hb
      simp only [List.length_singleton] at *
      go_wp2_with fail
      (with_reducible refine (c5 _).mono ?_)
      rintro e w4 ⟨rfl, hB4⟩
      have l1 := (hB4.cell (block_lt_of_cell l0)).trans l0
      have hBf := hb3.trans (hB4.mono hb3.size)
      clear l0 hB4 hb3
      go_wp2_with fail
      go_ret
      exact ⟨rfl, hBf⟩
set_option maxRecDepth 100000 in
set_option maxHeartbeats 12800000 in
theorem walk7 (field : Int) (f : Nat) (n : Int) (ht : field.tmod 12 = 6) (b0 : 0 ≤ field) (b1 : field ≤ 255) (hf : f < 18446744073709551616) (h0 : -9223372036854775808 ≤ n) (h1 : n ≤ 9223372036854775807) (w : World) :
    Calls Try.prog 4 #[.int .u8 field, .float .f64 f, .int .i64 n] w fun e w' => e = .returned (.bool true) ∧ Below w.heap.size w w' := by
  have c1 := gstd_any
  rw [std_val] at c1
  have c5 := shown10_any
  have c6 := gfaults_any (cfOf 7 f n) (of_typed 7 f n (by decide) (by decide) hf h0 h1)
  have hv : (cfOf 7 f n).val = .agg #[.float .f64 4593671619917905920, .float .f64 4643985272004935680, .float .f64 4652007308841189376, .float .f64 4557750909289998844, .float .f64 4534972062662729065, .float .f64 4609434218613702656, .float .f64 f, .int .i64 6, .int .i64 10, .int .i64 0, .int .i64 1, .int .i64 3] := rfl
  have hq : upTo (cfOf 7 f n) 12 = [] ∨ upTo (cfOf 7 f n) 12 = [7] := by
    rcases one_upTo 7 f n (by decide) (by decide) with h | ⟨q, h, hq⟩
    · exact .inl h
    · obtain rfl : q = 7 := by omega
      exact .inr h
  rw [hv] at c6
  clear hf h0 h1 hv
  rcases hq with hq | hq
  · rw [hq] at c6
    clear hq
    go_enter Try.func4, Try.ntmps4
    go_wp2_with fail
    (with_reducible refine (c1 _).mono ?_)
    rintro e w1 ⟨rfl, hB1⟩
    have hb2 : Below w.heap.size w (w1.alloc (.cells #[.float .f64 4593671619917905920, .float .f64 4643985272004935680, .float .f64 4652007308841189376, .float .f64 4557750909289998844, .float .f64 4534972062662729065, .float .f64 4609434218613702656, .float .f64 f, .int .i64 6, .int .i64 10, .int .i64 0, .int .i64 1, .int .i64 3] 24)) := hB1.alloc hB1.size _
    have hx2 := heap_alloc_new w1 (.cells #[.float .f64 4593671619917905920, .float .f64 4643985272004935680, .float .f64 4652007308841189376, .float .f64 4557750909289998844, .float .f64 4534972062662729065, .float .f64 4609434218613702656, .float .f64 f, .int .i64 6, .int .i64 10, .int .i64 0, .int .i64 1, .int .i64 3] 24)
    clear hB1
    go_wp2_with fail
    generalize w1.alloc (.cells #[.float .f64 4593671619917905920, .float .f64 4643985272004935680, .float .f64 4652007308841189376, .float .f64 4557750909289998844, .float .f64 4534972062662729065, .float .f64 4609434218613702656, .float .f64 f, .int .i64 6, .int .i64 10, .int .i64 0, .int .i64 1, .int .i64 3] 24) = w2 at *
    (with_reducible refine (c6 _).mono ?_)
    rintro e w3 ⟨v, rfl, hs, hB3⟩
    obtain ⟨vx, vc, rfl⟩ := hs.slice
    have hb3 := hb2.trans (hB3.mono hb2.size)
    clear hs hB3 hb2 hx2
    simp only [List.length_nil] at *
    go_wp2_with fail
    (with_reducible refine (c5 _).mono ?_)
    rintro e w4 ⟨rfl, hB4⟩
    have hBf := hb3.trans (hB4.mono hb3.size)
    go_wp2_with fail
    go_ret
    exact ⟨rfl, hBf⟩
  · rw [hq] at c6
    clear hq
    go_enter Try.func4, Try.ntmps4
    go_wp2_with fail
    (with_reducible refine (c1 _).mono ?_)
    rintro e w1 ⟨rfl, hB1⟩
    have hb2 : Below w.heap.size w (w1.alloc (.cells #[.float .f64 4593671619917905920, .float .f64 4643985272004935680, .float .f64 4652007308841189376, .float .f64 4557750909289998844, .float .f64 4534972062662729065, .float .f64 4609434218613702656, .float .f64 f, .int .i64 6, .int .i64 10, .int .i64 0, .int .i64 1, .int .i64 3] 24)) := hB1.alloc hB1.size _
    have hx2 := heap_alloc_new w1 (.cells #[.float .f64 4593671619917905920, .float .f64 4643985272004935680, .float .f64 4652007308841189376, .float .f64 4557750909289998844, .float .f64 4534972062662729065, .float .f64 4609434218613702656, .float .f64 f, .int .i64 6, .int .i64 10, .int .i64 0, .int .i64 1, .int .i64 3] 24)
    clear hB1
    go_wp2_with fail
    generalize w1.alloc (.cells #[.float .f64 4593671619917905920, .float .f64 4643985272004935680, .float .f64 4652007308841189376, .float .f64 4557750909289998844, .float .f64 4534972062662729065, .float .f64 4609434218613702656, .float .f64 f, .int .i64 6, .int .i64 10, .int .i64 0, .int .i64 1, .int .i64 3] 24) = w2 at *
    (with_reducible refine (c6 _).mono ?_)
    rintro e w3 ⟨v, rfl, hs, hB3⟩
    rcases hs with ⟨_, _, _, _, hnil⟩ | ⟨b, off, cap, rfl, hb, hcs⟩
    · cases hnil
    · have l0 := hcs 0 7 rfl 0 _ rfl
      simp only [Nat.zero_mul, Nat.add_zero] at l0
      have hb3 := hb2.trans (hB3.mono hb2.size)
      clear hcs hB3 hb2 hx2 hb
      simp only [List.length_singleton] at *
      go_wp2_with fail
      (with_reducible refine (c5 _).mono ?_)
      rintro e w4 ⟨rfl, hB4⟩
      have l1 := (hB4.cell (block_lt_of_cell l0)).trans l0
      have hBf := hb3.trans (hB4.mono hb3.size)
      clear l0 hB4 hb3
      go_wp2_with fail
      go_ret
      exact ⟨rfl, hBf⟩
set_option maxRecDepth 100000 in
set_option maxHeartbeats 12800000 in
theorem walk8 (field : Int) (f : Nat) (n : Int) (ht : field.tmod 12 = 7) (b0 : 0 ≤ field) (b1 : field ≤ 255) (hf : f < 18446744073709551616) (h0 : -9223372036854775808 ≤ n) (h1 : n ≤ 9223372036854775807) (w : World) :
    Calls Try.prog 4 #[.int .u8 field, .float .f64 f, .int .i64 n] w fun e w' => e = .returned (.bool true) ∧ Below w.heap.size w w' := by
  have c1 := gstd_any
  rw [std_val] at c1
  have c5 := shown10_any
  have c6 := gfaults_any (cfOf 8 f n) (of_typed 8 f n (by decide) (by decide) hf h0 h1)
  have hv : (cfOf 8 f n).val = .agg #[.float .f64 4593671619917905920, .float .f64 4643985272004935680, .float .f64 4652007308841189376, .float .f64 4557750909289998844, .float .f64 4534972062662729065, .float .f64 4609434218613702656, .float .f64 4616189618054758400, .int .i64 n, .int .i64 10, .int .i64 0, .int .i64 1, .int .i64 3] := rfl
  have hq : upTo (cfOf 8 f n) 12 = [] ∨ upTo (cfOf 8 f n) 12 = [8] ∨ upTo (cfOf 8 f n) 12 = [9] := by
    rcases one_upTo 8 f n (by decide) (by decide) with h | ⟨q, h, hq⟩
    · exact .inl h
    · rcases hq with rfl | ⟨_, rfl⟩
      · exact .inr (.inl h)
      · exact .inr (.inr h)
  rw [hv] at c6
  clear hf h0 h1 hv
  rcases hq with hq | hq | hq
  · rw [hq] at c6
    clear hq
    go_enter Try.func4, Try.ntmps4
    go_wp2_with fail
    (with_reducible refine (c1 _).mono ?_)
    rintro e w1 ⟨rfl, hB1⟩
    have hb2 : Below w.heap.size w (w1.alloc (.cells #[.float .f64 4593671619917905920, .float .f64 4643985272004935680, .float .f64 4652007308841189376, .float .f64 4557750909289998844, .float .f64 4534972062662729065, .float .f64 4609434218613702656, .float .f64 4616189618054758400, .int .i64 n, .int .i64 10, .int .i64 0, .int .i64 1, .int .i64 3] 24)) := hB1.alloc hB1.size _
    have hx2 := heap_alloc_new w1 (.cells #[.float .f64 4593671619917905920, .float .f64 4643985272004935680, .float .f64 4652007308841189376, .float .f64 4557750909289998844, .float .f64 4534972062662729065, .float .f64 4609434218613702656, .float .f64 4616189618054758400, .int .i64 n, .int .i64 10, .int .i64 0, .int .i64 1, .int .i64 3] 24)
    clear hB1
    go_wp2_with fail
    generalize w1.alloc (.cells #[.float .f64 4593671619917905920, .float .f64 4643985272004935680, .float .f64 4652007308841189376, .float .f64 4557750909289998844, .float .f64 4534972062662729065, .float .f64 4609434218613702656, .float .f64 4616189618054758400, .int .i64 n, .int .i64 10, .int .i64 0, .int .i64 1, .int .i64 3] 24) = w2 at *
    (with_reducible refine (c6 _).mono ?_)
    rintro e w3 ⟨v, rfl, hs, hB3⟩
    obtain ⟨vx, vc, rfl⟩ := hs.slice
    have hb3 := hb2.trans (hB3.mono hb2.size)
    clear hs hB3 hb2 hx2
    simp only [List.length_nil] at *
    go_wp2_with fail
    (with_reducible refine (c5 _).mono ?_)
    rintro e w4 ⟨rfl, hB4⟩
    have hBf := hb3.trans (hB4.mono hb3.size)
    go_wp2_with fail
    go_ret
    exact ⟨rfl, hBf⟩
  · rw [hq] at c6
    clear hq
    go_enter Try.func4, Try.ntmps4
    go_wp2_with fail
    (with_reducible refine (c1 _).mono ?_)
    rintro e w1 ⟨rfl, hB1⟩
    have hb2 : Below w.heap.size w (w1.alloc (.cells #[.float .f64 4593671619917905920, .float .f64 4643985272004935680, .float .f64 4652007308841189376, .float .f64 4557750909289998844, .float .f64 4534972062662729065, .float .f64 4609434218613702656, .float .f64 4616189618054758400, .int .i64 n, .int .i64 10, .int .i64 0, .int .i64 1, .int .i64 3] 24)) := hB1.alloc hB1.size _
    have hx2 := heap_alloc_new w1 (.cells #[.float .f64 4593671619917905920, .float .f64 4643985272004935680, .float .f64 4652007308841189376, .float .f64 4557750909289998844, .float .f64 4534972062662729065, .float .f64 4609434218613702656, .float .f64 4616189618054758400, .int .i64 n, .int .i64 10, .int .i64 0, .int .i64 1, .int .i64 3] 24)
    clear hB1
    go_wp2_with fail
    generalize w1.alloc (.cells #[.float .f64 4593671619917905920, .float .f64 4643985272004935680, .float .f64 4652007308841189376, .float .f64 4557750909289998844, .float .f64 4534972062662729065, .float .f64 4609434218613702656, .float .f64 4616189618054758400, .int .i64 n, .int .i64 10, .int .i64 0, .int .i64 1, .int .i64 3] 24) = w2 at *
    (with_reducible refine (c6 _).mono ?_)
    rintro e w3 ⟨v, rfl, hs, hB3⟩
    rcases hs with ⟨_, _, _, _, hnil⟩ | ⟨b, off, cap, rfl, hb, hcs⟩
    · cases hnil
    · have l0 := hcs 0 8 rfl 0 _ rfl
      simp only [Nat.zero_mul, Nat.add_zero] at l0
      have hb3 := hb2.trans (hB3.mono hb2.size)
      clear hcs hB3 hb2 hx2 hb
      simp only [List.length_singleton] at *
      go_wp2_with fail
      (with_reducible refine (c5 _).mono ?_)
      rintro e w4 ⟨rfl, hB4⟩
      have l1 := (hB4.cell (block_lt_of_cell l0)).trans l0
      have hBf := hb3.trans (hB4.mono hb3.size)
      clear l0 hB4 hb3
      go_wp2_with fail
      go_ret
      exact ⟨rfl, hBf⟩
  · rw [hq] at c6
    clear hq
    go_enter Try.func4, Try.ntmps4
    go_wp2_with fail
    (with_reducible refine (c1 _).mono ?_)
    rintro e w1 ⟨rfl, hB1⟩
    have hb2 : Below w.heap.size w (w1.alloc (.cells #[.float .f64 4593671619917905920, .float .f64 4643985272004935680, .float .f64 4652007308841189376, .float .f64 4557750909289998844, .float .f64 4534972062662729065, .float .f64 4609434218613702656, .float .f64 4616189618054758400, .int .i64 n, .int .i64 10, .int .i64 0, .int .i64 1, .int .i64 3] 24)) := hB1.alloc hB1.size _
    have hx2 := heap_alloc_new w1 (.cells #[.float .f64 4593671619917905920, .float .f64 4643985272004935680, .float .f64 4652007308841189376, .float .f64 4557750909289998844, .float .f64 4534972062662729065, .float .f64 4609434218613702656, .float .f64 4616189618054758400, .int .i64 n, .int .i64 10, .int .i64 0, .int .i64 1, .int .i64 3] 24)
    clear hB1
    go_wp2_with fail
    generalize w1.alloc (.cells #[.float .f64 4593671619917905920, .float .f64 4643985272004935680, .float .f64 4652007308841189376, .float .f64 4557750909289998844, .float .f64 4534972062662729065, .float .f64 4609434218613702656, .float .f64 4616189618054758400, .int .i64 n, .int .i64 10, .int .i64 0, .int .i64 1, .int .i64 3] 24) = w2 at *
    (with_reducible refine (c6 _).mono ?_)
    rintro e w3 ⟨v, rfl, hs, hB3⟩
    rcases hs with ⟨_, _, _, _, hnil⟩ | ⟨b, off, cap, rfl, hb, hcs⟩
    · cases hnil
    · have l0 := hcs 0 9 rfl 0 _ rfl
      simp only [Nat.zero_mul, Nat.add_zero] at l0
      have hb3 := hb2.trans (hB3.mono hb2.size)
      clear hcs hB3 hb2 hx2 hb
      simp only [List.length_singleton] at *
      go_wp2_with fail
      (with_reducible refine (c5 _).mono ?_)
      rintro e w4 ⟨rfl, hB4⟩
      have l1 := (hB4.cell (block_lt_of_cell l0)).trans l0
      have hBf := hb3.trans (hB4.mono hb3.size)
      clear l0 hB4 hb3
      go_wp2_with fail
      go_ret
      exact ⟨rfl, hBf⟩
set_option maxRecDepth 100000 in
set_option maxHeartbeats 12800000 in
theorem walk9 (field : Int) (f : Nat) (n : Int) (ht : field.tmod 12 = 8) (b0 : 0 ≤ field) (b1 : field ≤ 255) (hf : f < 18446744073709551616) (h0 : -9223372036854775808 ≤ n) (h1 : n ≤ 9223372036854775807) (w : World) :
    Calls Try.prog 4 #[.int .u8 field, .float .f64 f, .int .i64 n] w fun e w' => e = .returned (.bool true) ∧ Below w.heap.size w w' := by
  have c1 := gstd_any
  rw [std_val] at c1
  have c5 := shown10_any
  have c6 := gfaults_any (cfOf 9 f n) (of_typed 9 f n (by decide) (by decide) hf h0 h1)
  have hv : (cfOf 9 f n).val = .agg #[.float .f64 4593671619917905920, .float .f64 4643985272004935680, .float .f64 4652007308841189376, .float .f64 4557750909289998844, .float .f64 4534972062662729065, .float .f64 4609434218613702656, .float .f64 4616189618054758400, .int .i64 6, .int .i64 n, .int .i64 0, .int .i64 1, .int .i64 3] := rfl
  have hq : upTo (cfOf 9 f n) 12 = [] ∨ upTo (cfOf 9 f n) 12 = [9] := by
    rcases one_upTo 9 f n (by decide) (by decide) with h | ⟨q, h, hq⟩
    · exact .inl h
    · obtain rfl : q = 9 := by omega
      exact .inr h
  rw [hv] at c6
  clear hf h0 h1 hv
  rcases hq with hq | hq
  · rw [hq] at c6
    clear hq
    go_enter Try.func4, Try.ntmps4
    go_wp2_with fail
    (with_reducible refine (c1 _).mono ?_)
    rintro e w1 ⟨rfl, hB1⟩
    have hb2 : Below w.heap.size w (w1.alloc (.cells #[.float .f64 4593671619917905920, .float .f64 4643985272004935680, .float .f64 4652007308841189376, .float .f64 4557750909289998844, .float .f64 4534972062662729065, .float .f64 4609434218613702656, .float .f64 4616189618054758400, .int .i64 6, .int .i64 n, .int .i64 0, .int .i64 1, .int .i64 3] 24)) := hB1.alloc hB1.size _
    have hx2 := heap_alloc_new w1 (.cells #[.float .f64 4593671619917905920, .float .f64 4643985272004935680, .float .f64 4652007308841189376, .float .f64 4557750909289998844, .float .f64 4534972062662729065, .float .f64 4609434218613702656, .float .f64 4616189618054758400, .int .i64 6, .int .i64 n, .int .i64 0, .int .i64 1, .int .i64 3] 24)
    clear hB1
    go_wp2_with fail
    generalize w1.alloc (.cells #[.float .f64 4593671619917905920, .float .f64 4643985272004935680, .float .f64 4652007308841189376, .float .f64 4557750909289998844, .float .f64 4534972062662729065, .float .f64 4609434218613702656, .float .f64 4616189618054758400, .int .i64 6, .int .i64 n, .int .i64 0, .int .i64 1, .int .i64 3] 24) = w2 at *
    (with_reducible refine (c6 _).mono ?_)
    rintro e w3 ⟨v, rfl, hs, hB3⟩
    obtain ⟨vx, vc, rfl⟩ := hs.slice
    have hb3 := hb2.trans (hB3.mono hb2.size)
    clear hs hB3 hb2 hx2
    simp only [List.length_nil] at *
    go_wp2_with fail
    (with_reducible refine (c5 _).mono ?_)
    rintro e w4 ⟨rfl, hB4⟩
    have hBf := hb3.trans (hB4.mono hb3.size)
    go_wp2_with fail
    go_ret
    exact ⟨rfl, hBf⟩
  · rw [hq] at c6
    clear hq
    go_enter Try.func4, Try.ntmps4
    go_wp2_with fail
    (with_reducible refine (c1 _).mono ?_)
    rintro e w1 ⟨rfl, hB1⟩
    have hb2 : Below w.heap.size w (w1.alloc (.cells #[.float .f64 4593671619917905920, .float .f64 4643985272004935680, .float .f64 4652007308841189376, .float .f64 4557750909289998844, .float .f64 4534972062662729065, .float .f64 4609434218613702656, .float .f64 4616189618054758400, .int .i64 6, .int .i64 n, .int .i64 0, .int .i64 1, .int .i64 3] 24)) := hB1.alloc hB1.size _
    have hx2 := heap_alloc_new w1 (.cells #[.float .f64 4593671619917905920, .float .f64 4643985272004935680, .float .f64 4652007308841189376, .float .f64 4557750909289998844, .float .f64 4534972062662729065, .float .f64 4609434218613702656, .float .f64 4616189618054758400, .int .i64 6, .int .i64 n, .int .i64 0, .int .i64 1, .int .i64 3] 24)
    clear hB1
    go_wp2_with fail
    generalize w1.alloc (.cells #[.float .f64 4593671619917905920, .float .f64 4643985272004935680, .float .f64 4652007308841189376, .float .f64 4557750909289998844, .float .f64 4534972062662729065, .float .f64 4609434218613702656, .float .f64 4616189618054758400, .int .i64 6, .int .i64 n, .int .i64 0, .int .i64 1, .int .i64 3] 24) = w2 at *
    (with_reducible refine (c6 _).mono ?_)
    rintro e w3 ⟨v, rfl, hs, hB3⟩
    rcases hs with ⟨_, _, _, _, hnil⟩ | ⟨b, off, cap, rfl, hb, hcs⟩
    · cases hnil
    · have l0 := hcs 0 9 rfl 0 _ rfl
      simp only [Nat.zero_mul, Nat.add_zero] at l0
      have hb3 := hb2.trans (hB3.mono hb2.size)
      clear hcs hB3 hb2 hx2 hb
      simp only [List.length_singleton] at *
      go_wp2_with fail
      (with_reducible refine (c5 _).mono ?_)
      rintro e w4 ⟨rfl, hB4⟩
      have l1 := (hB4.cell (block_lt_of_cell l0)).trans l0
      have hBf := hb3.trans (hB4.mono hb3.size)
      clear l0 hB4 hb3
      go_wp2_with fail
      go_ret
      exact ⟨rfl, hBf⟩
set_option maxRecDepth 100000 in
set_option maxHeartbeats 12800000 in
theorem walk10 (field : Int) (f : Nat) (n : Int) (ht : field.tmod 12 = 9) (b0 : 0 ≤ field) (b1 : field ≤ 255) (hf : f < 18446744073709551616) (h0 : -9223372036854775808 ≤ n) (h1 : n ≤ 9223372036854775807) (w : World) :
    Calls Try.prog 4 #[.int .u8 field, .float .f64 f, .int .i64 n] w fun e w' => e = .returned (.bool true) ∧ Below w.heap.size w w' := by
  have c1 := gstd_any
  rw [std_val] at c1
  have c5 := shown10_any
  have c6 := gfaults_any (cfOf 10 f n) (of_typed 10 f n (by decide) (by decide) hf h0 h1)
  have hv : (cfOf 10 f n).val = .agg #[.float .f64 4593671619917905920, .float .f64 4643985272004935680, .float .f64 4652007308841189376, .float .f64 4557750909289998844, .float .f64 4534972062662729065, .float .f64 4609434218613702656, .float .f64 4616189618054758400, .int .i64 6, .int .i64 10, .int .i64 n, .int .i64 1, .int .i64 3] := rfl
  have hq : upTo (cfOf 10 f n) 12 = [] ∨ upTo (cfOf 10 f n) 12 = [10] := by
    rcases one_upTo 10 f n (by decide) (by decide) with h | ⟨q, h, hq⟩
    · exact .inl h
    · obtain rfl : q = 10 := by omega
      exact .inr h
  rw [hv] at c6
  clear hf h0 h1 hv
  rcases hq with hq | hq
  · rw [hq] at c6
    clear hq
    go_enter Try.func4, Try.ntmps4
    go_wp2_with fail
    (with_reducible refine (c1 _).mono ?_)
    rintro e w1 ⟨rfl, hB1⟩
    have hb2 : Below w.heap.size w (w1.alloc (.cells #[.float .f64 4593671619917905920, .float .f64 4643985272004935680, .float .f64 4652007308841189376, .float .f64 4557750909289998844, .float .f64 4534972062662729065, .float .f64 4609434218613702656, .float .f64 4616189618054758400, .int .i64 6, .int .i64 10, .int .i64 n, .int .i64 1, .int .i64 3] 24)) := hB1.alloc hB1.size _
    have hx2 := heap_alloc_new w1 (.cells #[.float .f64 4593671619917905920, .float .f64 4643985272004935680, .float .f64 4652007308841189376, .float .f64 4557750909289998844, .float .f64 4534972062662729065, .float .f64 4609434218613702656, .float .f64 4616189618054758400, .int .i64 6, .int .i64 10, .int .i64 n, .int .i64 1, .int .i64 3] 24)
    clear hB1
    go_wp2_with fail
    generalize w1.alloc (.cells #[.float .f64 4593671619917905920, .float .f64 4643985272004935680, .float .f64 4652007308841189376, .float .f64 4557750909289998844, .float .f64 4534972062662729065, .float .f64 4609434218613702656, .float .f64 4616189618054758400, .int .i64 6, .int .i64 10, .int .i64 n, .int .i64 1, .int .i64 3] 24) = w2 at *
    (with_reducible refine (c6 _).mono ?_)
    rintro e w3 ⟨v, rfl, hs, hB3⟩
    obtain ⟨vx, vc, rfl⟩ := hs.slice
    have hb3 := hb2.trans (hB3.mono hb2.size)
    clear hs hB3 hb2 hx2
    simp only [List.length_nil] at *
    go_wp2_with fail
    (with_reducible refine (c5 _).mono ?_)
    rintro e w4 ⟨rfl, hB4⟩
    have hBf := hb3.trans (hB4.mono hb3.size)
    go_wp2_with fail
    go_ret
    exact ⟨rfl, hBf⟩
  · rw [hq] at c6
    clear hq
    go_enter Try.func4, Try.ntmps4
    go_wp2_with fail
    (with_reducible refine (c1 _).mono ?_)
    rintro e w1 ⟨rfl, hB1⟩
    have hb2 : Below w.heap.size w (w1.alloc (.cells #[.float .f64 4593671619917905920, .float .f64 4643985272004935680, .float .f64 4652007308841189376, .float .f64 4557750909289998844, .float .f64 4534972062662729065, .float .f64 4609434218613702656, .float .f64 4616189618054758400, .int .i64 6, .int .i64 10, .int .i64 n, .int .i64 1, .int .i64 3] 24)) := hB1.alloc hB1.size _
    have hx2 := heap_alloc_new w1 (.cells #[.float .f64 4593671619917905920, .float .f64 4643985272004935680, .float .f64 4652007308841189376, .float .f64 4557750909289998844, .float .f64 4534972062662729065, .float .f64 4609434218613702656, .float .f64 4616189618054758400, .int .i64 6, .int .i64 10, .int .i64 n, .int .i64 1, .int .i64 3] 24)
    clear hB1
    go_wp2_with fail
    generalize w1.alloc (.cells #[.float .f64 4593671619917905920, .float .f64 4643985272004935680, .float .f64 4652007308841189376, .float .f64 4557750909289998844, .float .f64 4534972062662729065, .float .f64 4609434218613702656, .float .f64 4616189618054758400, .int .i64 6, .int .i64 10, .int .i64 n, .int .i64 1, .int .i64 3] 24) = w2 at *
    (with_reducible refine (c6 _).mono ?_)
    rintro e w3 ⟨v, rfl, hs, hB3⟩
    rcases hs with ⟨_, _, _, _, hnil⟩ | ⟨b, off, cap, rfl, hb, hcs⟩
    · cases hnil
    · have l0 := hcs 0 10 rfl 0 _ rfl
      simp only [Nat.zero_mul, Nat.add_zero] at l0
      have hb3 := hb2.trans (hB3.mono hb2.size)
      clear hcs hB3 hb2 hx2 hb
      simp only [List.length_singleton] at *
      go_wp2_with fail
      (with_reducible refine (c5 _).mono ?_)
      rintro e w4 ⟨rfl, hB4⟩
      have l1 := (hB4.cell (block_lt_of_cell l0)).trans l0
      have hBf := hb3.trans (hB4.mono hb3.size)
      clear l0 hB4 hb3
      go_wp2_with fail
      go_ret
      exact ⟨rfl, hBf⟩
set_option maxRecDepth 100000 in
set_option maxHeartbeats 12800000 in
theorem walk11 (field : Int) (f : Nat) (n : Int) (ht : field.tmod 12 = 10) (b0 : 0 ≤ field) (b1 : field ≤ 255) (hf : f < 18446744073709551616) (h0 : -9223372036854775808 ≤ n) (h1 : n ≤ 9223372036854775807) (w : World) :
    Calls Try.prog 4 #[.int .u8 field, .float .f64 f, .int .i64 n] w fun e w' => e = .returned (.bool true) ∧ Below w.heap.size w w' := by
  have c1 := gstd_any
  rw [std_val] at c1
  have c5 := shown10_any
  have c6 := gfaults_any (cfOf 11 f n) (of_typed 11 f n (by decide) (by decide) hf h0 h1)
  have hv : (cfOf 11 f n).val = .agg #[.float .f64 4593671619917905920, .float .f64 4643985272004935680, .float .f64 4652007308841189376, .float .f64 4557750909289998844, .float .f64 4534972062662729065, .float .f64 4609434218613702656, .float .f64 4616189618054758400, .int .i64 6, .int .i64 10, .int .i64 0, .int .i64 n, .int .i64 3] := rfl
  have hq : upTo (cfOf 11 f n) 12 = [] ∨ upTo (cfOf 11 f n) 12 = [11] := by
    rcases one_upTo 11 f n (by decide) (by decide) with h | ⟨q, h, hq⟩
    · exact .inl h
    · obtain rfl : q = 11 := by omega
      exact .inr h
  rw [hv] at c6
  clear hf h0 h1 hv
  rcases hq with hq | hq
  · rw [hq] at c6
    clear hq
    go_enter Try.func4, Try.ntmps4
    go_wp2_with fail
    (with_reducible refine (c1 _).mono ?_)
    rintro e w1 ⟨rfl, hB1⟩
    have hb2 : Below w.heap.size w (w1.alloc (.cells #[.float .f64 4593671619917905920, .float .f64 4643985272004935680, .float .f64 4652007308841189376, .float .f64 4557750909289998844, .float .f64 4534972062662729065, .float .f64 4609434218613702656, .float .f64 4616189618054758400, .int .i64 6, .int .i64 10, .int .i64 0, .int .i64 n, .int .i64 3] 24)) := hB1.alloc hB1.size _
    have hx2 := heap_alloc_new w1 (.cells #[.float .f64 4593671619917905920, .float .f64 4643985272004935680, .float .f64 4652007308841189376, .float .f64 4557750909289998844, .float .f64 4534972062662729065, .float .f64 4609434218613702656, .float .f64 4616189618054758400, .int .i64 6, .int .i64 10, .int .i64 0, .int .i64 n, .int .i64 3] 24)
    clear hB1
    go_wp2_with fail
    generalize w1.alloc (.cells #[.float .f64 4593671619917905920, .float .f64 4643985272004935680, .float .f64 4652007308841189376, .float .f64 4557750909289998844, .float .f64 4534972062662729065, .float .f64 4609434218613702656, .float .f64 4616189618054758400, .int .i64 6, .int .i64 10, .int .i64 0, .int .i64 n, .int .i64 3] 24) = w2 at *
    (with_reducible refine (c6 _).mono ?_)
    rintro e w3 ⟨v, rfl, hs, hB3⟩
    obtain ⟨vx, vc, rfl⟩ := hs.slice
    have hb3 := hb2.trans (hB3.mono hb2.size)
    clear hs hB3 hb2 hx2
    simp only [List.length_nil] at *
    go_wp2_with fail
    (with_reducible refine (c5 _).mono ?_)
    rintro e w4 ⟨rfl, hB4⟩
    have hBf := hb3.trans (hB4.mono hb3.size)
    go_wp2_with fail
    go_ret
    exact ⟨rfl, hBf⟩
  · rw [hq] at c6
    clear hq
    go_enter Try.func4, Try.ntmps4
    go_wp2_with fail
    (with_reducible refine (c1 _).mono ?_)
    rintro e w1 ⟨rfl, hB1⟩
    have hb2 : Below w.heap.size w (w1.alloc (.cells #[.float .f64 4593671619917905920, .float .f64 4643985272004935680, .float .f64 4652007308841189376, .float .f64 4557750909289998844, .float .f64 4534972062662729065, .float .f64 4609434218613702656, .float .f64 4616189618054758400, .int .i64 6, .int .i64 10, .int .i64 0, .int .i64 n, .int .i64 3] 24)) := hB1.alloc hB1.size _
    have hx2 := heap_alloc_new w1 (.cells #[.float .f64 4593671619917905920, .float .f64 4643985272004935680, .float .f64 4652007308841189376, .float .f64 4557750909289998844, .float .f64 4534972062662729065, .float .f64 4609434218613702656, .float .f64 4616189618054758400, .int .i64 6, .int .i64 10, .int .i64 0, .int .i64 n, .int .i64 3] 24)
    clear hB1
    go_wp2_with fail
    generalize w1.alloc (.cells #[.float .f64 4593671619917905920, .float .f64 4643985272004935680, .float .f64 4652007308841189376, .float .f64 4557750909289998844, .float .f64 4534972062662729065, .float .f64 4609434218613702656, .float .f64 4616189618054758400, .int .i64 6, .int .i64 10, .int .i64 0, .int .i64 n, .int .i64 3] 24) = w2 at *
    (with_reducible refine (c6 _).mono ?_)
    rintro e w3 ⟨v, rfl, hs, hB3⟩
    rcases hs with ⟨_, _, _, _, hnil⟩ | ⟨b, off, cap, rfl, hb, hcs⟩
    · cases hnil
    · have l0 := hcs 0 11 rfl 0 _ rfl
      simp only [Nat.zero_mul, Nat.add_zero] at l0
      have hb3 := hb2.trans (hB3.mono hb2.size)
      clear hcs hB3 hb2 hx2 hb
      simp only [List.length_singleton] at *
      go_wp2_with fail
      (with_reducible refine (c5 _).mono ?_)
      rintro e w4 ⟨rfl, hB4⟩
      have l1 := (hB4.cell (block_lt_of_cell l0)).trans l0
      have hBf := hb3.trans (hB4.mono hb3.size)
      clear l0 hB4 hb3
      go_wp2_with fail
      go_ret
      exact ⟨rfl, hBf⟩
set_option maxRecDepth 100000 in
set_option maxHeartbeats 12800000 in
theorem walk12 (field : Int) (f : Nat) (n : Int) (ht : field.tmod 12 = 11) (b0 : 0 ≤ field) (b1 : field ≤ 255) (hf : f < 18446744073709551616) (h0 : -9223372036854775808 ≤ n) (h1 : n ≤ 9223372036854775807) (w : World) :
    Calls Try.prog 4 #[.int .u8 field, .float .f64 f, .int .i64 n] w fun e w' => e = .returned (.bool true) ∧ Below w.heap.size w w' := by
  have c1 := gstd_any
  rw [std_val] at c1
  have c5 := shown10_any
  have c6 := gfaults_any (cfOf 12 f n) (of_typed 12 f n (by decide) (by decide) hf h0 h1)
  have hv : (cfOf 12 f n).val = .agg #[.float .f64 4593671619917905920, .float .f64 4643985272004935680, .float .f64 4652007308841189376, .float .f64 4557750909289998844, .float .f64 4534972062662729065, .float .f64 4609434218613702656, .float .f64 4616189618054758400, .int .i64 6, .int .i64 10, .int .i64 0, .int .i64 1, .int .i64 n] := rfl
  have hq : upTo (cfOf 12 f n) 12 = [] ∨ upTo (cfOf 12 f n) 12 = [12] := by
    rcases one_upTo 12 f n (by decide) (by decide) with h | ⟨q, h, hq⟩
    · exact .inl h
    · obtain rfl : q = 12 := by omega
      exact .inr h
  rw [hv] at c6
  clear hf h0 h1 hv
  rcases hq with hq | hq
  · rw [hq] at c6
    clear hq
    go_enter Try.func4, Try.ntmps4
    go_wp2_with fail
    (with_reducible refine (c1 _).mono ?_)
    rintro e w1 ⟨rfl, hB1⟩
    have hb2 : Below w.heap.size w (w1.alloc (.cells #[.float .f64 4593671619917905920, .float .f64 4643985272004935680, .float .f64 4652007308841189376, .float .f64 4557750909289998844, .float .f64 4534972062662729065, .float .f64 4609434218613702656, .float .f64 4616189618054758400, .int .i64 6, .int .i64 10, .int .i64 0, .int .i64 1, .int .i64 n] 24)) := hB1.alloc hB1.size _
    have hx2 := heap_alloc_new w1 (.cells #[.float .f64 4593671619917905920, .float .f64 4643985272004935680, .float .f64 4652007308841189376, .float .f64 4557750909289998844, .float .f64 4534972062662729065, .float .f64 4609434218613702656, .float .f64 4616189618054758400, .int .i64 6, .int .i64 10, .int .i64 0, .int .i64 1, .int .i64 n] 24)
    clear hB1
    go_wp2_with fail
    generalize w1.alloc (.cells #[.float .f64 4593671619917905920, .float .f64 4643985272004935680, .float .f64 4652007308841189376, .float .f64 4557750909289998844, .float .f64 4534972062662729065, .float .f64 4609434218613702656, .float .f64 4616189618054758400, .int .i64 6, .int .i64 10, .int .i64 0, .int .i64 1, .int .i64 n] 24) = w2 at *
    (with_reducible refine (c6 _).mono ?_)
    rintro e w3 ⟨v, rfl, hs, hB3⟩
    obtain ⟨vx, vc, rfl⟩ := hs.slice
    have hb3 := hb2.trans (hB3.mono hb2.size)
    clear hs hB3 hb2 hx2
    simp only [List.length_nil] at *
    go_wp2_with fail
    (with_reducible refine (c5 _).mono ?_)
    rintro e w4 ⟨rfl, hB4⟩
    have hBf := hb3.trans (hB4.mono hb3.size)
    go_wp2_with fail
    go_ret
    exact ⟨rfl, hBf⟩
  · rw [hq] at c6
    clear hq
    go_enter Try.func4, Try.ntmps4
    go_wp2_with fail
    (with_reducible refine (c1 _).mono ?_)
    rintro e w1 ⟨rfl, hB1⟩
    have hb2 : Below w.heap.size w (w1.alloc (.cells #[.float .f64 4593671619917905920, .float .f64 4643985272004935680, .float .f64 4652007308841189376, .float .f64 4557750909289998844, .float .f64 4534972062662729065, .float .f64 4609434218613702656, .float .f64 4616189618054758400, .int .i64 6, .int .i64 10, .int .i64 0, .int .i64 1, .int .i64 n] 24)) := hB1.alloc hB1.size _
    have hx2 := heap_alloc_new w1 (.cells #[.float .f64 4593671619917905920, .float .f64 4643985272004935680, .float .f64 4652007308841189376, .float .f64 4557750909289998844, .float .f64 4534972062662729065, .float .f64 4609434218613702656, .float .f64 4616189618054758400, .int .i64 6, .int .i64 10, .int .i64 0, .int .i64 1, .int .i64 n] 24)
    clear hB1
    go_wp2_with fail
    generalize w1.alloc (.cells #[.float .f64 4593671619917905920, .float .f64 4643985272004935680, .float .f64 4652007308841189376, .float .f64 4557750909289998844, .float .f64 4534972062662729065, .float .f64 4609434218613702656, .float .f64 4616189618054758400, .int .i64 6, .int .i64 10, .int .i64 0, .int .i64 1, .int .i64 n] 24) = w2 at *
    (with_reducible refine (c6 _).mono ?_)
    rintro e w3 ⟨v, rfl, hs, hB3⟩
    rcases hs with ⟨_, _, _, _, hnil⟩ | ⟨b, off, cap, rfl, hb, hcs⟩
    · cases hnil
    · have l0 := hcs 0 12 rfl 0 _ rfl
      simp only [Nat.zero_mul, Nat.add_zero] at l0
      have hb3 := hb2.trans (hB3.mono hb2.size)
      clear hcs hB3 hb2 hx2 hb
      simp only [List.length_singleton] at *
      go_wp2_with fail
      (with_reducible refine (c5 _).mono ?_)
      rintro e w4 ⟨rfl, hB4⟩
      have l1 := (hB4.cell (block_lt_of_cell l0)).trans l0
      have hBf := hb3.trans (hB4.mono hb3.size)
      clear l0 hB4 hb3
      go_wp2_with fail
      go_ret
      exact ⟨rfl, hBf⟩
theorem walk (field : Int) (f : Nat) (n : Int) (w : World) (w0 : (Lit.int .u8 field).wf = true) (w1 : (Lit.float .f64 f).wf = true) (w2 : (Lit.int .i64 n).wf = true) :
    Calls Try.prog 4 #[.int .u8 field, .float .f64 f, .int .i64 n] w fun e w' => e = .returned (.bool true) ∧ Below w.heap.size w w' := by
  obtain ⟨a0, a1⟩ := u8_bounds w0
  have bf := wf_f64 w1
  have bn := bounds_i64 w2
  have hm : field.tmod 12 = field % 12 := Int.tmod_eq_emod_of_nonneg a0
  have hk : field.tmod 12 = 0 ∨ field.tmod 12 = 1 ∨ field.tmod 12 = 2 ∨ field.tmod 12 = 3 ∨ field.tmod 12 = 4 ∨ field.tmod 12 = 5 ∨ field.tmod 12 = 6 ∨ field.tmod 12 = 7 ∨ field.tmod 12 = 8 ∨ field.tmod 12 = 9 ∨ field.tmod 12 = 10 ∨ field.tmod 12 = 11 := by omega
  rcases hk with h | h | h | h | h | h | h | h | h | h | h | h
  · exact walk1 field f n h a0 a1 bf (by omega) (by omega) w
  · exact walk2 field f n h a0 a1 bf (by omega) (by omega) w
  · exact walk3 field f n h a0 a1 bf (by omega) (by omega) w
  · exact walk4 field f n h a0 a1 bf (by omega) (by omega) w
  · exact walk5 field f n h a0 a1 bf (by omega) (by omega) w
  · exact walk6 field f n h a0 a1 bf (by omega) (by omega) w
  · exact walk7 field f n h a0 a1 bf (by omega) (by omega) w
  · exact walk8 field f n h a0 a1 bf (by omega) (by omega) w
  · exact walk9 field f n h a0 a1 bf (by omega) (by omega) w
  · exact walk10 field f n h a0 a1 bf (by omega) (by omega) w
  · exact walk11 field f n h a0 a1 bf (by omega) (by omega) w
  · exact walk12 field f n h a0 a1 bf (by omega) (by omega) w
set_option maxRecDepth 100000 in
theorem lifted (os : Os) (started : os.Started) (H : Type) (enc : TypeId × Value → H) :
    ReturnsInHanded {} Try.checked os 4 .any (Rows.setupOneSpec.pre6 enc Try.prog Try.f4 Rows.setupOneRow.domain false) (Rows.setupOneSpec.post enc Try.prog Try.f4 false true false false) := by
  refine returnsInHanded_of_change (C := Try.checked) own started (by kernel_rfl) Try.func4
    (ChangeSpec.witness6 (enc := enc) (C := Try.checked) false ⟨#[], #[.int .u8 0, .float .f64 0, .int .i64 0], []⟩ 8 (by kernel_rfl) (by kernel_rfl) (by kernel_rfl) (by kernel_rfl)) ?_
  intro W base args ds gs before hval0 hW hcnd _
  have hval : ∀ (j : Nat) t v, Try.f4.params[j]? = some t → args[j]? = some v → Value.okWide Try.prog W .any base t v := hval0
  have hW' := hW
  obtain ⟨p, q, hA0, hV, rfl, hfz, hnd⟩ := hW
  have hA : DataW.TrodAll enc Try.prog W 0 (fun _ => true) true Try.f4.params.toList args.toList ds p := hA0
  rw [Try.params4] at hA hval
  obtain ⟨v0, vs0, d0, ds0, p0, q0, hargs, rfl, rfl, h0, r0⟩ := trodAll_cons hA
  obtain ⟨v1, vs1, d1, ds1, p1, q1, rfl, rfl, rfl, h1, r1⟩ := trodAll_cons r0
  obtain ⟨v2, vs2, d2, ds2, p2, q2, rfl, rfl, rfl, h2, r2⟩ := trodAll_cons r1
  obtain ⟨rfl, rfl, rfl⟩ := trodAll_nil r2
  obtain rfl : args = #[v0, v1, v2] := by cases args; simp_all
  obtain ⟨rfl, rfl⟩ := trodVars_none hV
  obtain ⟨a0, rfl, rfl, rfl, w0⟩ := open_int Try.underlying5 (hval 0 5 v0 rfl rfl) h0
  obtain ⟨a1, rfl, rfl, rfl, w1⟩ := open_float Try.underlying22 (hval 1 22 v1 rfl rfl) h1
  obtain ⟨a2, rfl, rfl, rfl, w2⟩ := open_int Try.underlying3 (hval 2 3 v2 rfl rfl) h2
  clear hA0 hval0
  refine (walk a0 a1 a2 W w0 w1 w2).mono fun e W' ⟨he, bel⟩ => ?_
  subst he
  exact ⟨_, rfl, _, _, _, [], _, [], hW', trodAll_mk1 (shut_bool Try.underlying4 _), (trodAll_cons_mk (shut_int Try.underlying5 w0) (trodAll_cons_mk (shut_float Try.underlying22 w1) (trodAll_cons_mk (shut_int Try.underlying3 w2) trodAll_mk0))), rfl, bel.frame _, fun h => by cases h⟩

theorem over : Rows.setupOneRow.holds Try.pinned (OpenSpec.ofChange Rows.setupOneSpec) :=
  OpenClaim.holds_of_wide 4 Try.f4 rfl rfl rfl rfl rfl rfl rfl ⟨rfl, rfl, rfl, rfl, rfl⟩ rfl rfl rfl rfl rfl (by kernel_rfl) Try.func4 (by kernel_rfl)
    (of_decide_eq_true (by kernel_rfl)) (by unfold Func.isWrapper; first | (rw [if_pos (by decide +kernel)]; kernel_rfl) | (rw [if_neg (by decide +kernel)]; exact ⟨rfl, rfl⟩))
    (fun os started H enc _ => lifted os started H enc)

theorem proved : Rows.SetupOneSaid := over
end Go.Proofs.Ytfanijdemephoaa.SetupOne
