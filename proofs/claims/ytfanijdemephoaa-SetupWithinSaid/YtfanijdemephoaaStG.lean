/- The document's own answers of layer 10, walked: names; two lists of numbers. -/
import Derived.Test.YtfanijdemephoaaStF
namespace Go.Proofs.Ytfanijdemephoaa.W
open Go.RowKit Go.Sort
set_option linter.unusedVariables false
set_option linter.unusedSimpArgs false
def nameV (k : Int) : ByteArray :=
  if k = 1 then { data := #[115, 116, 101, 112] }
  else if k = 2 then { data := #[119, 97, 116, 99, 104] }
  else if k = 3 then { data := #[112, 97, 110, 105, 99] }
  else if k = 4 then { data := #[109, 97, 120, 114, 97, 116, 101] }
  else if k = 5 then { data := #[112, 104, 105] }
  else if k = 6 then { data := #[109, 97, 120, 100, 105, 115, 116] }
  else if k = 7 then { data := #[103, 97, 116, 101] }
  else if k = 8 then { data := #[109, 105, 110, 112, 111, 108, 108] }
  else if k = 9 then { data := #[109, 97, 120, 112, 111, 108, 108] }
  else if k = 10 then { data := #[98, 117, 114, 115, 116] }
  else if k = 11 then { data := #[109, 105, 110, 115, 97, 110, 101] }
  else if k = 12 then { data := #[109, 105, 110, 108, 101, 102, 116] }
  else { data := #[] }
theorem name_at : nameV 1 = { data := #[115, 116, 101, 112] } ∧ nameV 2 = { data := #[119, 97, 116, 99, 104] } ∧ nameV 3 = { data := #[112, 97, 110, 105, 99] } ∧ nameV 4 = { data := #[109, 97, 120, 114, 97, 116, 101] } ∧ nameV 5 = { data := #[112, 104, 105] } ∧ nameV 6 = { data := #[109, 97, 120, 100, 105, 115, 116] } ∧ nameV 7 = { data := #[103, 97, 116, 101] } ∧ nameV 8 = { data := #[109, 105, 110, 112, 111, 108, 108] } ∧ nameV 9 = { data := #[109, 97, 120, 112, 111, 108, 108] } ∧ nameV 10 = { data := #[98, 117, 114, 115, 116] } ∧ nameV 11 = { data := #[109, 105, 110, 115, 97, 110, 101] } ∧ nameV 12 = { data := #[109, 105, 110, 108, 101, 102, 116] } := by decide
theorem name_no (k : Int) (h : k < 1 ∨ 12 < k) : nameV k = { data := #[] } := by
  unfold nameV
  rw [if_neg (show ¬ k = 1 by omega), if_neg (show ¬ k = 2 by omega), if_neg (show ¬ k = 3 by omega), if_neg (show ¬ k = 4 by omega), if_neg (show ¬ k = 5 by omega), if_neg (show ¬ k = 6 by omega), if_neg (show ¬ k = 7 by omega), if_neg (show ¬ k = 8 by omega), if_neg (show ¬ k = 9 by omega), if_neg (show ¬ k = 10 by omega), if_neg (show ¬ k = 11 by omega), if_neg (show ¬ k = 12 by omega)]
set_option maxRecDepth 100000 in
set_option maxHeartbeats 1600000 in
theorem rname1 (w : World) : Calls Try.prog 9 #[.int .i64 1] w fun e w' => e = .returned (.string { data := #[115, 116, 101, 112] }) ∧ Below w.heap.size w w' := by
  go_enter Try.func9, Try.ntmps9
  go_wp2
  go_ret
  exact ⟨rfl, by repeat' (first | (with_reducible exact Below.refl _ _) | (with_reducible assumption) | (with_reducible refine below_drewN ?_ _) | (with_reducible refine Below.drew ?_) | (with_reducible refine Below.setCell ?_ ?_ _) | (with_reducible refine Below.alloc ?_ ?_ _) | (simp; done) | (simp; omega) | omega)⟩
set_option maxRecDepth 100000 in
set_option maxHeartbeats 1600000 in
theorem rname2 (w : World) : Calls Try.prog 9 #[.int .i64 2] w fun e w' => e = .returned (.string { data := #[119, 97, 116, 99, 104] }) ∧ Below w.heap.size w w' := by
  go_enter Try.func9, Try.ntmps9
  go_wp2
  go_ret
  exact ⟨rfl, by repeat' (first | (with_reducible exact Below.refl _ _) | (with_reducible assumption) | (with_reducible refine below_drewN ?_ _) | (with_reducible refine Below.drew ?_) | (with_reducible refine Below.setCell ?_ ?_ _) | (with_reducible refine Below.alloc ?_ ?_ _) | (simp; done) | (simp; omega) | omega)⟩
set_option maxRecDepth 100000 in
set_option maxHeartbeats 1600000 in
theorem rname3 (w : World) : Calls Try.prog 9 #[.int .i64 3] w fun e w' => e = .returned (.string { data := #[112, 97, 110, 105, 99] }) ∧ Below w.heap.size w w' := by
  go_enter Try.func9, Try.ntmps9
  go_wp2
  go_ret
  exact ⟨rfl, by repeat' (first | (with_reducible exact Below.refl _ _) | (with_reducible assumption) | (with_reducible refine below_drewN ?_ _) | (with_reducible refine Below.drew ?_) | (with_reducible refine Below.setCell ?_ ?_ _) | (with_reducible refine Below.alloc ?_ ?_ _) | (simp; done) | (simp; omega) | omega)⟩
set_option maxRecDepth 100000 in
set_option maxHeartbeats 1600000 in
theorem rname4 (w : World) : Calls Try.prog 9 #[.int .i64 4] w fun e w' => e = .returned (.string { data := #[109, 97, 120, 114, 97, 116, 101] }) ∧ Below w.heap.size w w' := by
  go_enter Try.func9, Try.ntmps9
  go_wp2
  go_ret
  exact ⟨rfl, by repeat' (first | (with_reducible exact Below.refl _ _) | (with_reducible assumption) | (with_reducible refine below_drewN ?_ _) | (with_reducible refine Below.drew ?_) | (with_reducible refine Below.setCell ?_ ?_ _) | (with_reducible refine Below.alloc ?_ ?_ _) | (simp; done) | (simp; omega) | omega)⟩
set_option maxRecDepth 100000 in
set_option maxHeartbeats 1600000 in
theorem rname5 (w : World) : Calls Try.prog 9 #[.int .i64 5] w fun e w' => e = .returned (.string { data := #[112, 104, 105] }) ∧ Below w.heap.size w w' := by
  go_enter Try.func9, Try.ntmps9
  go_wp2
  go_ret
  exact ⟨rfl, by repeat' (first | (with_reducible exact Below.refl _ _) | (with_reducible assumption) | (with_reducible refine below_drewN ?_ _) | (with_reducible refine Below.drew ?_) | (with_reducible refine Below.setCell ?_ ?_ _) | (with_reducible refine Below.alloc ?_ ?_ _) | (simp; done) | (simp; omega) | omega)⟩
set_option maxRecDepth 100000 in
set_option maxHeartbeats 1600000 in
theorem rname6 (w : World) : Calls Try.prog 9 #[.int .i64 6] w fun e w' => e = .returned (.string { data := #[109, 97, 120, 100, 105, 115, 116] }) ∧ Below w.heap.size w w' := by
  go_enter Try.func9, Try.ntmps9
  go_wp2
  go_ret
  exact ⟨rfl, by repeat' (first | (with_reducible exact Below.refl _ _) | (with_reducible assumption) | (with_reducible refine below_drewN ?_ _) | (with_reducible refine Below.drew ?_) | (with_reducible refine Below.setCell ?_ ?_ _) | (with_reducible refine Below.alloc ?_ ?_ _) | (simp; done) | (simp; omega) | omega)⟩
set_option maxRecDepth 100000 in
set_option maxHeartbeats 1600000 in
theorem rname7 (w : World) : Calls Try.prog 9 #[.int .i64 7] w fun e w' => e = .returned (.string { data := #[103, 97, 116, 101] }) ∧ Below w.heap.size w w' := by
  go_enter Try.func9, Try.ntmps9
  go_wp2
  go_ret
  exact ⟨rfl, by repeat' (first | (with_reducible exact Below.refl _ _) | (with_reducible assumption) | (with_reducible refine below_drewN ?_ _) | (with_reducible refine Below.drew ?_) | (with_reducible refine Below.setCell ?_ ?_ _) | (with_reducible refine Below.alloc ?_ ?_ _) | (simp; done) | (simp; omega) | omega)⟩
set_option maxRecDepth 100000 in
set_option maxHeartbeats 1600000 in
theorem rname8 (w : World) : Calls Try.prog 9 #[.int .i64 8] w fun e w' => e = .returned (.string { data := #[109, 105, 110, 112, 111, 108, 108] }) ∧ Below w.heap.size w w' := by
  go_enter Try.func9, Try.ntmps9
  go_wp2
  go_ret
  exact ⟨rfl, by repeat' (first | (with_reducible exact Below.refl _ _) | (with_reducible assumption) | (with_reducible refine below_drewN ?_ _) | (with_reducible refine Below.drew ?_) | (with_reducible refine Below.setCell ?_ ?_ _) | (with_reducible refine Below.alloc ?_ ?_ _) | (simp; done) | (simp; omega) | omega)⟩
set_option maxRecDepth 100000 in
set_option maxHeartbeats 1600000 in
theorem rname9 (w : World) : Calls Try.prog 9 #[.int .i64 9] w fun e w' => e = .returned (.string { data := #[109, 97, 120, 112, 111, 108, 108] }) ∧ Below w.heap.size w w' := by
  go_enter Try.func9, Try.ntmps9
  go_wp2
  go_ret
  exact ⟨rfl, by repeat' (first | (with_reducible exact Below.refl _ _) | (with_reducible assumption) | (with_reducible refine below_drewN ?_ _) | (with_reducible refine Below.drew ?_) | (with_reducible refine Below.setCell ?_ ?_ _) | (with_reducible refine Below.alloc ?_ ?_ _) | (simp; done) | (simp; omega) | omega)⟩
set_option maxRecDepth 100000 in
set_option maxHeartbeats 1600000 in
theorem rname10 (w : World) : Calls Try.prog 9 #[.int .i64 10] w fun e w' => e = .returned (.string { data := #[98, 117, 114, 115, 116] }) ∧ Below w.heap.size w w' := by
  go_enter Try.func9, Try.ntmps9
  go_wp2
  go_ret
  exact ⟨rfl, by repeat' (first | (with_reducible exact Below.refl _ _) | (with_reducible assumption) | (with_reducible refine below_drewN ?_ _) | (with_reducible refine Below.drew ?_) | (with_reducible refine Below.setCell ?_ ?_ _) | (with_reducible refine Below.alloc ?_ ?_ _) | (simp; done) | (simp; omega) | omega)⟩
set_option maxRecDepth 100000 in
set_option maxHeartbeats 1600000 in
theorem rname11 (w : World) : Calls Try.prog 9 #[.int .i64 11] w fun e w' => e = .returned (.string { data := #[109, 105, 110, 115, 97, 110, 101] }) ∧ Below w.heap.size w w' := by
  go_enter Try.func9, Try.ntmps9
  go_wp2
  go_ret
  exact ⟨rfl, by repeat' (first | (with_reducible exact Below.refl _ _) | (with_reducible assumption) | (with_reducible refine below_drewN ?_ _) | (with_reducible refine Below.drew ?_) | (with_reducible refine Below.setCell ?_ ?_ _) | (with_reducible refine Below.alloc ?_ ?_ _) | (simp; done) | (simp; omega) | omega)⟩
set_option maxRecDepth 100000 in
set_option maxHeartbeats 1600000 in
theorem rname12 (w : World) : Calls Try.prog 9 #[.int .i64 12] w fun e w' => e = .returned (.string { data := #[109, 105, 110, 108, 101, 102, 116] }) ∧ Below w.heap.size w w' := by
  go_enter Try.func9, Try.ntmps9
  go_wp2
  go_ret
  exact ⟨rfl, by repeat' (first | (with_reducible exact Below.refl _ _) | (with_reducible assumption) | (with_reducible refine below_drewN ?_ _) | (with_reducible refine Below.drew ?_) | (with_reducible refine Below.setCell ?_ ?_ _) | (with_reducible refine Below.alloc ?_ ?_ _) | (simp; done) | (simp; omega) | omega)⟩
set_option maxRecDepth 100000 in
set_option maxHeartbeats 1600000 in
theorem rname_no (k : Int) (h : k < 1 ∨ 12 < k) (w : World) : Calls Try.prog 9 #[.int .i64 k] w fun e w' => e = .returned (.string { data := #[] }) ∧ Below w.heap.size w w' := by
  by_cases h1 : k < 1
  · clear h
    go_enter Try.func9, Try.ntmps9
    go_wp2
    go_ret
    exact ⟨rfl, by repeat' (first | (with_reducible exact Below.refl _ _) | (with_reducible assumption) | (with_reducible refine below_drewN ?_ _) | (with_reducible refine Below.drew ?_) | (with_reducible refine Below.setCell ?_ ?_ _) | (with_reducible refine Below.alloc ?_ ?_ _) | (simp; done) | (simp; omega) | omega)⟩
  · have h2 : 12 < k := by omega
    clear h
    go_enter Try.func9, Try.ntmps9
    go_wp2
    go_ret
    exact ⟨rfl, by repeat' (first | (with_reducible exact Below.refl _ _) | (with_reducible assumption) | (with_reducible refine below_drewN ?_ _) | (with_reducible refine Below.drew ?_) | (with_reducible refine Below.setCell ?_ ?_ _) | (with_reducible refine Below.alloc ?_ ?_ _) | (simp; done) | (simp; omega) | omega)⟩
theorem rname_any (k : Int) (w : World) : Calls Try.prog 9 #[.int .i64 k] w fun e w' => e = .returned (.string (nameV k)) ∧ Below w.heap.size w w' := by
  by_cases h : k < 1 ∨ 12 < k
  · rw [name_no k h]
    exact rname_no k h w
  · have hk : k = 1 ∨ k = 2 ∨ k = 3 ∨ k = 4 ∨ k = 5 ∨ k = 6 ∨ k = 7 ∨ k = 8 ∨ k = 9 ∨ k = 10 ∨ k = 11 ∨ k = 12 := by omega
    obtain ⟨e1, e2, e3, e4, e5, e6, e7, e8, e9, e10, e11, e12⟩ := name_at
    rcases hk with rfl | rfl | rfl | rfl | rfl | rfl | rfl | rfl | rfl | rfl | rfl | rfl
    · rw [e1]; exact rname1 w
    · rw [e2]; exact rname2 w
    · rw [e3]; exact rname3 w
    · rw [e4]; exact rname4 w
    · rw [e5]; exact rname5 w
    · rw [e6]; exact rname6 w
    · rw [e7]; exact rname7 w
    · rw [e8]; exact rname8 w
    · rw [e9]; exact rname9 w
    · rw [e10]; exact rname10 w
    · rw [e11]; exact rname11 w
    · rw [e12]; exact rname12 w
def eqI (x y : Int) : Bool := decide (x = y)
theorem eqI_iff (x y : Int) : eqI x y = true ↔ x = y := by simp [eqI]
theorem drewN_twice10 (w : World) (m n : Nat) : (w.drewN m).drewN n = w.drewN (m + n) := by simp [World.drewN, Nat.add_assoc]
set_option maxRecDepth 100000 in
set_option maxHeartbeats 3200000 in
theorem ints_any {F G : Nat → Prop} (a b : List Int) (ha : a.length ≤ 1000000) (hb : b.length ≤ 1000000) (va vb : Value) (w : World) (ia : SlAt F 1 (oneE .i64) w va a) (ib : SlAt G 1 (oneE .i64) w vb b) :
    Calls Try.prog 12 #[va, vb] w fun e w' => e = .returned (.bool (lSame eqI a b)) ∧ ∃ m, w' = w.drewN m := by
  obtain ⟨x, c, rfl⟩ := ia.slice
  obtain ⟨y, d, rfl⟩ := ib.slice
  by_cases hl : a.length = b.length
  · have IA := Lib.hid ia
    have IB := Lib.hid ib
    have hli : (a.length : Int) = b.length := by omega
    clear ia ib
    go_enter Try.func12, Try.ntmps12
    go_wp2
    go_loopw [5] (fun i wr => ∃ k m : Nat, k ≤ a.length ∧ i = .int .i64 k ∧ lSame eqI a b = lSame eqI (a.drop k) (b.drop k) ∧ wr = w.drewN m) (fun i _ => a.length - (intOf i).toNat)
    case atStart => exact ⟨0, 0, Nat.zero_le _, rfl, rfl, rfl⟩
    case round =>
      obtain ⟨k, m, hk, rfl, hs, rfl⟩ := hrel
      by_cases hlt : k < a.length
      · obtain ⟨e, he, _⟩ := at_index a k hlt
        obtain ⟨f, hf, _⟩ := at_index b k (by omega)
        rw [lSame_step eqI a b k e f he hf] at hs
        rcases IA.out with ⟨_, _, hv, _, rfl⟩ | ⟨ab, ao, ac, hv, _, hca⟩
        · simp at hlt
        · rcases IB.out with ⟨_, _, hw, _, rfl⟩ | ⟨bb, bo, bc, hw, _, hcb⟩
          · simp at hf
          · simp only [Value.slice.injEq] at hv hw
            obtain ⟨rfl, _, rfl⟩ := hv
            obtain ⟨rfl, _, rfl⟩ := hw
            have a0 : w.cell? ⟨ab, ao + k, none⟩ = some (.int .i64 e) := by have := hca k e he 0 _ rfl; simpa using this
            have b0 : w.cell? ⟨bb, bo + k, none⟩ = some (.int .i64 f) := by have := hcb k f hf 0 _ rfl; simpa using this
            have i0 : (0 : Int) ≤ (k : Int) := by omega
            have i1 : (k : Int) < (a.length : Int) := by omega
            have i2 : (k : Int) < (b.length : Int) := by omega
            have HS := Lib.hid hs
            clear hs hca hcb he hf
            by_cases hq : e = f
            · have hq' : eqI e f = true := (eqI_iff e f).2 hq
              subst hq
              have HQ := Lib.hid hq'
              clear hq'
              go_wp2_with fail
              go_quiet (fail)
              go_wp2_with fail
              go_roundw
              case rel => exact ⟨k + 1, _, by omega, by go_num, by rw [HS.out, HQ.out]; rfl, by first | exact drewN_twice10 _ _ _ | exact rfl⟩
              case measure => simp [intOf]; omega
            · have hq' : eqI e f = false := by unfold eqI; exact decide_eq_false hq
              have hqb : (e == f) = false := by rw [beq_eq_false_iff_ne]; exact hq
              have HQ := Lib.hid hq'
              clear hq' hq
              go_wp2_with fail
              go_quiet (fail)
              go_wp2_with fail
              go_ret
              exact ⟨by rw [HS.out, HQ.out]; rfl, _, drewN_twice10 _ _ _⟩
      · obtain rfl : k = a.length := by omega
        rw [List.drop_of_length_le (Nat.le_refl _), List.drop_of_length_le (by omega)] at hs
        have HS := Lib.hid hs
        clear hs
        go_wp2_with fail
        go_ret
        exact ⟨by rw [HS.out]; rfl, _, rfl⟩
  · have hl' : ¬ (a.length : Int) = b.length := by omega
    have hf : lSame eqI a b = false := by
      cases h : lSame eqI a b
      · rfl
      · exact absurd (congrArg List.length ((lSame_iff eqI_iff a b).1 h)) hl
    rw [hf]
    clear hl hf ia ib
    go_enter Try.func12, Try.ntmps12
    go_wp2
    go_ret
    exact ⟨rfl, 0, rfl⟩
end Go.Proofs.Ytfanijdemephoaa.W
