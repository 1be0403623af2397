/- Layer 14 as numbers: an offset far from all others. No program in it. -/
import Derived.Test.YtiadaaihlimloaaGreatFrQ
namespace Go.Proofs.YtiadaaihlimloaaGreat.W
open Go.RowKit
set_option linter.unusedVariables false
set_option linter.unusedSimpArgs false
/-- The four samples. -/
def spS (o : Int) (i : Nat) : Smp := ⟨o, 1000, 10, (i : Int) * 4294967296, 0⟩
def spL (o : Int) : List Smp := (List.range 4).map (spS o)
theorem spL_at (o : Int) {i : Nat} (h : i < 4) : (spL o)[i]? = some (spS o i) := by
  unfold spL
  rw [List.getElem?_map, List.getElem?_range h]
  rfl
theorem spL_four (o : Int) : newS (spL o) 4 = [spS o 3, spS o 2, spS o 1, spS o 0] := rfl
/-- What was told of the four. -/
def spF (o : Int) : Fl := ⟨[spS o 3, spS o 2, spS o 1, spS o 0], true, 12884901888, o, 0, 4096⟩
def spN (o O now T : Int) : Smp := ⟨O, 1, 10, now, T⟩
theorem sp_take (p : Pm) (o : Int) (ho : -2147483648 ≤ o ∧ o ≤ 2147483647) :
    takeE p ⟨newS (spL o) 4, false, 0, 0, 0, 0⟩ (-20) 6 17179869184 0 = 0 ∧ takeF p ⟨newS (spL o) 4, false, 0, 0, 0, 0⟩ (-20) 6 17179869184 0 = spF o := by
  have e0 : takeE p ⟨newS (spL o) 4, false, 0, 0, 0, 0⟩ (-20) 6 17179869184 0 = 0 := by
    unfold takeE
    rw [if_neg (by rw [spL_four]; simp), if_neg (by simp), if_neg (by simp)]
  have hs : ordS [spS o 3, spS o 2, spS o 1, spS o 0] = [spS o 3, spS o 2, spS o 1, spS o 0] := ord_same 1000 (fun x hx => by
    simp only [List.mem_cons, List.not_mem_nil, or_false] at hx
    rcases hx with rfl | rfl | rfl | rfl <;> rfl)
  have hmv : ∀ k, moveI (spS o k) 0 = o := fun k => by
    show subI o (subI 0 0) = o
    rw [show subI 0 0 = 0 from by decide]
    unfold subI
    rw [cutI_in _ (by omega) (by omega)]
    omega
  have hz : subI o o = 0 := by unfold subI; rw [Int.sub_self]; decide
  refine ⟨e0, ?_⟩
  unfold takeF
  rw [if_pos e0, spL_four]
  unfold tellT
  rw [if_neg (by simp)]
  dsimp only
  rw [show bestS [spS o 3, spS o 2, spS o 1, spS o 0] = spS o 3 from (by unfold bestS; rw [hs]; rfl), hs, hmv]
  have hj : jitF [spS o 3, spS o 2, spS o 1, spS o 0] (-20) 0 = 4096 := by
    unfold jitF
    simp only [List.tail_cons, List.headD_cons, List.map_cons, List.map_nil, hmv, hz]
    rw [show [(0 : Int), 0, 0] = List.replicate 3 0 from rfl, rms_zero]
    decide
  rw [hj]
  rfl
/-- What is told of a far one, and whether it is taken. -/
theorem sp_told (p : Pm) (o : Int) (ho : -2147483648 ≤ o ∧ o ≤ 2147483647) (f T now : Int) (hf : 0 ≤ f ∧ f ≤ 65535) (hT : -2147483648 ≤ T ∧ T ≤ 2147483647) (hn : 21474836480 ≤ now ∧ now ≤ 1116691496960) :
    (tellT p (putF (spF o) (spN o (o + (f + 1) * 4294967296 - T) now T)) (-20) now T).off = o + (f + 1) * 4294967296 - T ∧
    (tellT p (putF (spF o) (spN o (o + (f + 1) * 4294967296 - T) now T)) (-20) now T).at_ = now ∧
    takeE p (putF (spF o) (spN o (o + (f + 1) * 4294967296 - T) now T)) (-20) 6 now T = if now - 12884901888 < 549755813888 then 141 else 0 := by
  have hp : putF (spF o) (spN o (o + (f + 1) * 4294967296 - T) now T) = ⟨[spN o (o + (f + 1) * 4294967296 - T) now T, spS o 3, spS o 2, spS o 1, spS o 0], true, 12884901888, o, 0, 4096⟩ := rfl
  rw [hp]
  have hs : ordS [spN o (o + (f + 1) * 4294967296 - T) now T, spS o 3, spS o 2, spS o 1, spS o 0] = [spN o (o + (f + 1) * 4294967296 - T) now T, spS o 3, spS o 2, spS o 1, spS o 0] := by
    unfold ordS spN spS
    rfl
  have hb : bestS [spN o (o + (f + 1) * 4294967296 - T) now T, spS o 3, spS o 2, spS o 1, spS o 0] = spN o (o + (f + 1) * 4294967296 - T) now T := by unfold bestS; rw [hs]; rfl
  have hmv : moveI (spN o (o + (f + 1) * 4294967296 - T) now T) T = o + (f + 1) * 4294967296 - T := by
    show subI (o + (f + 1) * 4294967296 - T) (subI T T) = _
    have : subI T T = 0 := by unfold subI; rw [Int.sub_self]; decide
    rw [this]
    unfold subI
    rw [cutI_in _ (by omega) (by omega)]
    omega
  have h1 : (tellT p ⟨[spN o (o + (f + 1) * 4294967296 - T) now T, spS o 3, spS o 2, spS o 1, spS o 0], true, 12884901888, o, 0, 4096⟩ (-20) now T).off = o + (f + 1) * 4294967296 - T := by
    unfold tellT
    rw [if_neg (by simp)]
    dsimp only
    rw [hb, hmv]
  have h2 : (tellT p ⟨[spN o (o + (f + 1) * 4294967296 - T) now T, spS o 3, spS o 2, spS o 1, spS o 0], true, 12884901888, o, 0, 4096⟩ (-20) now T).at_ = now := by
    unfold tellT
    rw [if_neg (by simp)]
    dsimp only
    rw [hb]
    rfl
  refine ⟨h1, h2, ?_⟩
  unfold takeE farF threeF
  rw [if_neg (by simp), h1, h2, if_neg (by dsimp only; omega)]
  dsimp only
  have e1 : absI (subI (o + (f + 1) * 4294967296 - T) (subI o (subI T 0))) = (f + 1) * 4294967296 := by
    have a1 : subI T 0 = T := by unfold subI; rw [cutI_in _ (by omega) (by omega)]; omega
    have a2 : subI o T = o - T := by unfold subI; rw [cutI_in _ (by omega) (by omega)]
    have a3 : subI (o + (f + 1) * 4294967296 - T) (o - T) = (f + 1) * 4294967296 := by unfold subI; rw [cutI_in _ (by omega) (by omega)]; omega
    rw [a1, a2, a3]
    unfold absI sizeI
    rw [cutI_in _ (by split <;> omega) (by split <;> omega)]
    split <;> omega
  have e2 : addI (addI 4096 4096) 4096 = 12288 := by decide
  have e3 : subI now 12884901888 = now - 12884901888 := by unfold subI; rw [cutI_in _ (by omega) (by omega)]
  have e4 : addI (powI 6) (powI 6) = 549755813888 := by decide
  rw [e1, e2, e3, e4]
  by_cases h : now - 12884901888 < 549755813888
  · rw [if_pos ⟨rfl, by omega, h⟩, if_pos h]
  · rw [if_neg (fun g => h g.2.2), if_neg h]
end Go.Proofs.YtiadaaihlimloaaGreat.W
