/- The document's own answers of layer 6, walked: who says no; how a reference is named. -/
import Derived.Test.YtdcpohbgbnbgmaaEdA
import Derived.Test.YtdcpohbgbnbgmaaHdF
import Derived.WalkKit
namespace Go.Proofs.Ytdcpohbgbnbgmaa.W
open Go.RowKit Go.Sort
set_option linter.unusedVariables false
set_option linter.unusedSimpArgs false
/-- Which code. -/
def kissI (stratum ref : Int) : Int := if stratum = 0 then (if ref = 1145392729 then 1 else if ref = 1381192786 then 2 else if ref = 1380013125 then 3 else 4) else 0
set_option maxHeartbeats 3200000 in
theorem rkiss_any (s r : Int) (s0 : -9223372036854775808 ≤ s) (s1 : s ≤ 9223372036854775807) (r0 : 0 ≤ r) (r1 : r < 4294967296) (w : World) :
    Calls Try.prog 18 #[.int .i64 s, .int .u32 r] w fun e w' => e = .returned (.int .i64 (kissI s r)) ∧ w = w' := by
  have d1 := rref_any [68, 69, 78, 89] (by decide)
  have d2 := rref_any [82, 83, 84, 82] (by decide)
  have d3 := rref_any [82, 65, 84, 69] (by decide)
  rw [show num (refL [68, 69, 78, 89]) = 1145392729 by decide] at d1
  rw [show num (refL [82, 83, 84, 82]) = 1381192786 by decide] at d2
  rw [show num (refL [82, 65, 84, 69]) = 1380013125 by decide] at d3
  have z1 : (ByteArray.mk #[68, 69, 78, 89]) = bs [68, 69, 78, 89] := rfl
  have z2 : (ByteArray.mk #[82, 83, 84, 82]) = bs [82, 83, 84, 82] := rfl
  have z3 : (ByteArray.mk #[82, 65, 84, 69]) = bs [82, 65, 84, 69] := rfl
  by_cases hs : s = 0
  · subst hs
    by_cases h1 : r = 1145392729
    · subst h1
      go_enter Try.func18, Try.ntmps18
      go_wp2_with fail
      (with_reducible refine (d1 _).mono ?_)
      rintro e w' ⟨rfl, rfl⟩
      go_wp2_with fail
      go_ret
      exact ⟨rfl, rfl⟩
    · by_cases h2 : r = 1381192786
      · subst h2
        go_enter Try.func18, Try.ntmps18
        go_wp2_with fail
        (with_reducible refine (d1 _).mono ?_)
        rintro e w' ⟨rfl, rfl⟩
        go_wp2_with fail
        (with_reducible refine (d2 _).mono ?_)
        rintro e w' ⟨rfl, rfl⟩
        go_wp2_with fail
        go_ret
        exact ⟨rfl, rfl⟩
      · by_cases h3 : r = 1380013125
        · subst h3
          go_enter Try.func18, Try.ntmps18
          go_wp2_with fail
          (with_reducible refine (d1 _).mono ?_)
          rintro e w' ⟨rfl, rfl⟩
          go_wp2_with fail
          (with_reducible refine (d2 _).mono ?_)
          rintro e w' ⟨rfl, rfl⟩
          go_wp2_with fail
          (with_reducible refine (d3 _).mono ?_)
          rintro e w' ⟨rfl, rfl⟩
          go_wp2_with fail
          go_ret
          exact ⟨rfl, rfl⟩
        · have hv : kissI 0 r = 4 := by unfold kissI; rw [if_pos rfl, if_neg h1, if_neg h2, if_neg h3]
          rw [hv]
          clear hv
          go_enter Try.func18, Try.ntmps18
          go_wp2_with fail
          (with_reducible refine (d1 _).mono ?_)
          rintro e w' ⟨rfl, rfl⟩
          go_wp2_with fail
          (with_reducible refine (d2 _).mono ?_)
          rintro e w' ⟨rfl, rfl⟩
          go_wp2_with fail
          (with_reducible refine (d3 _).mono ?_)
          rintro e w' ⟨rfl, rfl⟩
          go_wp2_with fail
          go_ret
          exact ⟨rfl, rfl⟩
  · have hv : kissI s r = 0 := by unfold kissI; rw [if_neg hs]
    rw [hv]
    clear hv
    go_enter Try.func18, Try.ntmps18
    go_wp2_with fail
    go_ret
    exact ⟨rfl, rfl⟩
/-- A reference's letters. -/
def nameF : List UInt8 → List UInt8
  | [] => []
  | b :: l => if b = 0 then [] else (if (b.toNat : Int) < 33 ∨ 126 < (b.toNat : Int) then 63 else b) :: nameF l
def nameL (r : Int) : List UInt8 := nameF (be 4 r)
theorem nameF_length : ∀ (l : List UInt8), (nameF l).length ≤ l.length
  | [] => Nat.le_refl _
  | b :: l => by
    have := nameF_length l
    unfold nameF
    split
    · simp
    · simpa using this
theorem nameF_drop (l : List UInt8) (k : Nat) (h : k < l.length) : nameF (l.drop k) = if l.getD k 0 = 0 then [] else (if byteAt l k < 33 ∨ 126 < byteAt l k then 63 else l.getD k 0) :: nameF (l.drop (k + 1)) := by
  have e : l.getD k 0 = l[k] := by rw [List.getD_eq_getElem?_getD, List.getElem?_eq_getElem h]; rfl
  unfold byteAt
  rw [List.drop_eq_getElem_cons h, e]
  rfl
theorem byte_zero (l : List UInt8) (k : Nat) : byteAt l k = 0 ↔ l.getD k 0 = 0 := by
  unfold byteAt
  constructor
  · intro h
    have h' : (l.getD k 0).toNat = 0 := by omega
    exact UInt8.toNat_inj.1 (by rw [h']; rfl)
  · intro h
    rw [h]
    rfl
set_option maxHeartbeats 3200000 in
theorem rname_any (r : Int) (r0 : 0 ≤ r) (r1 : r < 4294967296) (w : World) :
    Calls Try.prog 19 #[.int .u32 r] w fun e w' => e = .returned (.string (bs (nameL r))) ∧ Below w.heap.size w w' := by
  have y1 : ∀ w, Calls Try.prog 29 #[.int .u64 r, .int .i64 4] w fun e w' => e = .returned (.string (bs (be 4 r))) ∧ Below w.heap.size w w' := bytes_any r 4 r0 (by omega) (by omega)
  have hL := be_length 4 r
  have hn : nameL r = nameF (be 4 r) := rfl
  have HN := Lib.hid hn
  clear hn
  generalize be 4 r = L at *
  have z1 : (ByteArray.mk #[63]) = bs [63] := rfl
  go_enter Try.func19, Try.ntmps19
  go_wp2_with fail
  (with_reducible refine (y1 _).mono ?_)
  rintro e w' ⟨rfl, hB⟩
  go_wp2_with fail
  go_loop [4, 5] (fun s i => ∃ (k : Nat) (acc : List UInt8), k ≤ 4 ∧ i = .int .i64 k ∧ s = .string (bs acc) ∧ acc.length ≤ k ∧ nameF L = acc ++ nameF (L.drop k)) (fun _ i => 4 - (intOf i).toNat)
  case atStart => exact ⟨0, [], Nat.zero_le _, rfl, rfl, Nat.le_refl _, rfl⟩
  case round =>
    obtain ⟨k, acc, hk, rfl, rfl, hac, hr⟩ := hrel
    by_cases hlt : k < 4
    · have ij := index_at L k (by omega)
      have sj : ∀ w, (Instr.slice 9 (.string (bs L)) (some (.int .i64 (k : Int))) (some (.int .i64 ((k : Int) + 1))) none).run Try.prog w = .ok (.string (bs [L.getD k 0])) w := by
        rw [cut_one L k (by omega)]
        exact slice_at L k (k + 1) (by omega) (by omega)
      have hz := byte_zero L k
      rw [nameF_drop L k (by omega)] at hr
      have hlen1 : acc.length + 1 ≤ 9223372036854775807 := by omega
      by_cases h0 : L.getD k 0 = 0
      · rw [if_pos h0, List.append_nil] at hr
        have h1 := hz.2 h0
        have HR := Lib.hid hr
        clear hr hz h0 sj
        rw [h1] at ij
        clear h1
        go_wp2_with fail
        go_ret
        exact ⟨by rw [HN.out, HR.out]; rfl, hB⟩
      · have h1 : ¬ byteAt L k = 0 := fun e => h0 (hz.1 e)
        obtain ⟨b0, b1⟩ := byteAt_range L k
        rw [if_neg h0] at hr
        clear hz h0
        generalize L.getD k 0 = x at *
        generalize byteAt L k = c at *
        by_cases h2 : c < 33
        · rw [if_pos (Or.inl h2)] at hr
          have HR := Lib.hid hr
          clear hr
          go_wp2_with fail
          go_round
          case rel => exact ⟨k + 1, acc ++ [63], by omega, by go_num, by simp [bs_append], by simp; omega, by rw [HR.out]; simp⟩
          case measure => simp [intOf]; omega
        · by_cases h3 : 126 < c
          · rw [if_pos (Or.inr h3)] at hr
            have HR := Lib.hid hr
            clear hr
            go_wp2_with fail
            go_round
            case rel => exact ⟨k + 1, acc ++ [63], by omega, by go_num, by simp [bs_append], by simp; omega, by rw [HR.out]; simp⟩
            case measure => simp [intOf]; omega
          · rw [if_neg (by omega)] at hr
            have HR := Lib.hid hr
            clear hr
            go_wp2_with fail
            go_round
            case rel => exact ⟨k + 1, acc ++ [x], by omega, by go_num, by simp [bs_append], by simp; omega, by rw [HR.out]; simp⟩
            case measure => simp [intOf]; omega
    · obtain rfl : k = 4 := by omega
      rw [List.drop_of_length_le (by omega)] at hr
      have HR := Lib.hid hr
      clear hr
      go_wp2_with fail
      go_ret
      exact ⟨by rw [HN.out, HR.out]; simp [nameF], hB⟩
end Go.Proofs.Ytdcpohbgbnbgmaa.W
