/- Layer 14 as numbers: samples that all say the same. No program in it. -/
import Derived.Test.YtiadaaihlimloaaGreatFrA
namespace Go.Proofs.YtiadaaihlimloaaGreat.W
open Go.RowKit
set_option linter.unusedVariables false
set_option linter.unusedSimpArgs false
theorem ins_same (s : Smp) : ∀ acc : List Smp, (∀ x ∈ acc, x.del = s.del) → insS s acc = acc ++ [s]
  | [], _ => rfl
  | y :: r, h => by
    unfold insS
    rw [if_neg (by rw [h y List.mem_cons_self]; omega), ins_same s r (fun x hx => h x (List.mem_cons_of_mem _ hx))]
    rfl
theorem fold_same (d : Int) : ∀ l acc : List Smp, (∀ x ∈ l, x.del = d) → (∀ x ∈ acc, x.del = d) → l.foldl (fun acc s => insS s acc) acc = acc ++ l
  | [], acc, _, _ => by simp
  | y :: l, acc, hl, ha => by
    have hy := hl y List.mem_cons_self
    rw [List.foldl_cons, ins_same y acc (fun x hx => (ha x hx).trans hy.symm), fold_same d l (acc ++ [y]) (fun x hx => hl x (List.mem_cons_of_mem _ hx)) (fun x hx => by
      rcases List.mem_append.1 hx with h | h
      · exact ha x h
      · rw [List.mem_singleton.1 h]; exact hy)]
    simp
theorem ord_same {l : List Smp} (d : Int) (h : ∀ x ∈ l, x.del = d) : ordS l = l := by
  unfold ordS
  rw [fold_same d l [] h (by simp)]
  simp
theorem shift_part (a : Int) (k : Nat) (hk : k < 8) (h0 : 0 ≤ a) (h1 : a ≤ 68719476736) : shiftI a (-((k : Int) + 1)) = a / 2 ^ (k + 1) := by
  have e : (min (-(-((k : Int) + 1))) 1000).toNat = k + 1 := by omega
  unfold shiftI
  rw [if_pos (by omega), e]
  have g0 : 0 ≤ a / 2 ^ (k + 1) := Int.ediv_nonneg h0 (Int.le_of_lt (Int.pow_pos (by decide)))
  have g1 : a / 2 ^ (k + 1) ≤ a := Int.ediv_le_self _ h0
  exact cutI_in _ (by omega) (by omega)
theorem ages_in (p : Pm) (hp : 0 ≤ p.phi ∧ p.phi ≤ 1000000) (s : Smp) (hd : 0 ≤ s.disp ∧ s.disp ≤ 65535) (at_ : Int) (ha : 0 ≤ at_ ∧ at_ ≤ 12) (hs : 0 ≤ s.at_ ∧ s.at_ ≤ 12) : 0 ≤ ageI p s at_ ∧ ageI p s at_ ≤ 70000 := by
  have hx : 0 ≤ max 0 (subI at_ s.at_) ∧ max 0 (subI at_ s.at_) ≤ 12 := by
    unfold subI
    rw [cutI_in _ (by omega) (by omega)]
    omega
  unfold ageI
  generalize max 0 (subI at_ s.at_) = x at *
  have h2 : 0 ≤ p.phi * x := Int.mul_nonneg hp.1 hx.1
  have h3 : p.phi * x ≤ 1000000 * 12 := Int.mul_le_mul hp.2 hx.2 hx.1 (by decide)
  have hm : mulI p.phi x = 0 := by
    unfold mulI
    generalize p.phi * x = y at *
    rw [cutI_in _ (by omega) (by omega)]
    omega
  rw [hm]
  unfold addI
  rw [cutI_in _ (by omega) (by omega)]
  omega
theorem disp_sum (p : Pm) (o : List Smp) (at_ : Int) (h : ∀ i, 0 ≤ agesF p o at_ i ∧ agesF p o at_ i ≤ 68719476736) :
    dispF p o at_ 8 = agesF p o at_ 0 / 2 + agesF p o at_ 1 / 4 + agesF p o at_ 2 / 8 + agesF p o at_ 3 / 16 + agesF p o at_ 4 / 32 + agesF p o at_ 5 / 64 + agesF p o at_ 6 / 128 + agesF p o at_ 7 / 256 := by
  have S := fun k hk => shift_part (agesF p o at_ k) k hk (h k).1 (h k).2
  have D1 : dispF p o at_ 1 = agesF p o at_ 0 / 2 := by
    show addI 0 (shiftI (agesF p o at_ 0) (-(((0 : Nat) : Int) + 1))) = _
    rw [S 0 (by decide)]
    have := h 0
    unfold addI
    rw [cutI_in _ (by omega) (by omega)]
    omega
  have N : ∀ k x (c : Int), (2 : Int) ^ (k + 1) = c → k < 8 → dispF p o at_ k = x → 0 ≤ x → x ≤ 687194767360 → dispF p o at_ (k + 1) = x + agesF p o at_ k / c := fun k x c hc hk e h0 h1 => by
    subst hc
    show addI (dispF p o at_ k) (shiftI (agesF p o at_ k) (-((k : Int) + 1))) = _
    rw [S k hk, e]
    have g0 : 0 ≤ agesF p o at_ k / 2 ^ (k + 1) := Int.ediv_nonneg (h k).1 (Int.le_of_lt (Int.pow_pos (by decide)))
    have g1 : agesF p o at_ k / 2 ^ (k + 1) ≤ agesF p o at_ k := Int.ediv_le_self _ (h k).1
    have := h k
    unfold addI
    rw [cutI_in _ (by omega) (by omega)]
  have h0 := h 0
  have h1 := h 1
  have h2 := h 2
  have h3 := h 3
  have h4 := h 4
  have h5 := h 5
  have h6 := h 6
  have h7 := h 7
  have D2 : dispF p o at_ 2 = _ := N 1 _ 4 rfl (by decide) D1 (by omega) (by omega)
  have D3 : dispF p o at_ 3 = _ := N 2 _ 8 rfl (by decide) D2 (by omega) (by omega)
  have D4 : dispF p o at_ 4 = _ := N 3 _ 16 rfl (by decide) D3 (by omega) (by omega)
  have D5 : dispF p o at_ 5 = _ := N 4 _ 32 rfl (by decide) D4 (by omega) (by omega)
  have D6 : dispF p o at_ 6 = _ := N 5 _ 64 rfl (by decide) D5 (by omega) (by omega)
  have D7 : dispF p o at_ 7 = _ := N 6 _ 128 rfl (by decide) D6 (by omega) (by omega)
  have D8 : dispF p o at_ 8 = _ := N 7 _ 256 rfl (by decide) D7 (by omega) (by omega)
  rw [D8]
/-- Samples that say the same, one behind the other. -/
def eqS (o dl ds : Int) (i : Nat) : Smp := ⟨o, dl, ds, i, 0⟩
def eqL (o dl ds : Int) : List Smp := (List.range 12).map (eqS o dl ds)
theorem eqL_at (o dl ds : Int) {i : Nat} (h : i < 12) : (eqL o dl ds)[i]? = some (eqS o dl ds i) := by
  unfold eqL
  rw [List.getElem?_map, List.getElem?_range h]
  rfl
theorem newS_eq (o dl ds : Int) (i : Nat) : ∀ s ∈ newS (eqL o dl ds) i, ∃ k, k < 12 ∧ s = eqS o dl ds k := fun s hs => by
  unfold newS at hs
  have := List.mem_of_mem_take (List.mem_reverse.1 (List.mem_of_mem_take hs))
  unfold eqL at this
  obtain ⟨k, hk, rfl⟩ := List.mem_map.1 this
  exact ⟨k, List.mem_range.1 hk, rfl⟩
theorem rms_zero (n : Nat) : rmsI (List.replicate n 0) = 0 := by
  have hm : mulI 0 0 = 0 := by decide
  have hs : (List.replicate n (0 : Int)).sum = 0 := by simp
  unfold rmsI
  rw [List.map_replicate, hm]
  unfold meanI
  split
  · rfl
  · rw [hs, Int.zero_ediv]
    decide
/-- What is told of samples that say the same. -/
theorem quiet_told (p : Pm) (hp : 0 ≤ p.phi ∧ p.phi ≤ 1000000) (o dl ds : Int) (ho : -2147483648 ≤ o ∧ o ≤ 2147483647) (hd : 0 ≤ ds ∧ ds ≤ 65535) (n : Nat) (hn : 1 ≤ n ∧ n ≤ 12) (had : Bool) (u a b c : Int) :
    ∃ D x : Int, tellT p ⟨newS (eqL o dl ds) n, had, u, a, b, c⟩ (-18) n 0 = ⟨o, dl, D, 16384, x⟩ ∧ (n = 1 → 33822867456 ≤ D ∧ D < 38654705664) ∧ (n ≠ 1 → 0 ≤ D ∧ D < 34359738368) := by
  have hl : (newS (eqL o dl ds) n).length = min n 8 := new_length _ _ (by simp [eqL]; omega)
  have ha := newS_eq o dl ds n
  generalize newS (eqL o dl ds) n = l at *
  have hne : l ≠ [] := by
    intro e
    rw [e] at hl
    simp at hl
    omega
  have ho : ordS l = l := ord_same dl (fun x hx => by obtain ⟨k, _, rfl⟩ := ha x hx; rfl)
  have hmv : ∀ k, moveI (eqS o dl ds k) 0 = o := fun k => by
    show subI o (subI 0 0) = o
    have : subI 0 0 = 0 := by decide
    rw [this]
    unfold subI
    rw [cutI_in _ (by omega) (by omega)]
    omega
  obtain ⟨y, r, rfl⟩ := List.exists_cons_of_ne_nil hne
  obtain ⟨ky, hky, ey⟩ := ha y List.mem_cons_self
  have hj : jitF (y :: r) (-18) 0 = 16384 := by
    unfold jitF
    have e : ((y :: r).tail.map fun x => subI (moveI ((y :: r).headD Smp.zero) 0) (moveI x 0)) = List.replicate r.length 0 := by
      rw [List.eq_replicate_iff]
      refine ⟨by simp, fun z hz => ?_⟩
      obtain ⟨x, hx, rfl⟩ := List.mem_map.1 hz
      obtain ⟨k, _, rfl⟩ := ha x (List.mem_cons_of_mem _ hx)
      show subI (moveI y 0) _ = 0
      rw [ey, hmv, hmv]
      unfold subI
      rw [Int.sub_self]
      decide
    rw [e, rms_zero]
    decide
  have hA : ∀ i, i < (y :: r).length → 0 ≤ agesF p (y :: r) n i ∧ agesF p (y :: r) n i ≤ 70000 := fun i hi => by
    unfold agesF
    rw [dif_pos hi]
    obtain ⟨k, hk, e⟩ := ha _ (List.getElem_mem hi)
    rw [e]
    exact ages_in p hp _ hd n ⟨by omega, by omega⟩ ⟨by show (0 : Int) ≤ (k : Int); omega, by show (k : Int) ≤ 12; omega⟩
  have hZ : ∀ i, ¬ i < (y :: r).length → agesF p (y :: r) n i = 68719476736 := fun i hi => by
    unfold agesF
    rw [dif_neg hi]
  have hD := disp_sum p (y :: r) n (fun i => by
    by_cases hi : i < (y :: r).length
    · have := hA i hi
      omega
    · rw [hZ i hi]
      decide)
  refine ⟨dispF p (y :: r) n 8, y.at_, ?_, ?_, ?_⟩
  · unfold tellT
    rw [if_neg hne]
    dsimp only
    rw [show bestS (y :: r) = y from (by unfold bestS; rw [ho]; rfl), ho, hj, ey, hmv]
    rfl
  · intro h1
    rw [hl, h1] at hA hZ
    have a0 := hA 0 (by decide)
    have a1 := hZ 1 (by decide)
    have a2 := hZ 2 (by decide)
    have a3 := hZ 3 (by decide)
    have a4 := hZ 4 (by decide)
    have a5 := hZ 5 (by decide)
    have a6 := hZ 6 (by decide)
    have a7 := hZ 7 (by decide)
    rw [h1] at hD ⊢
    rw [hD]
    omega
  · intro h1
    rw [hl] at hA hZ
    have a0 := hA 0 (by omega)
    have a1 := hA 1 (by omega)
    have ax : ∀ i, 0 ≤ agesF p (y :: r) n i ∧ agesF p (y :: r) n i ≤ 68719476736 := fun i => by
      by_cases hi : i < min n 8
      · have := hA i hi
        omega
      · rw [hZ i hi]
        decide
    have a2 := ax 2
    have a3 := ax 3
    have a4 := ax 4
    have a5 := ax 5
    have a6 := ax 6
    have a7 := ax 7
    rw [hD]
    omega
end Go.Proofs.YtiadaaihlimloaaGreat.W
