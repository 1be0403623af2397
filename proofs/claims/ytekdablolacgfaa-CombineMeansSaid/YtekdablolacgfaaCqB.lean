/- Layer 18 as numbers: offsets that are all the same; two of them. No program in it. -/
import Derived.Test.YtekdablolacgfaaCqA
namespace Go.Proofs.Ytekdablolacgfaa.W
open Go.RowKit
set_option linter.unusedVariables false
/-- The sum, not rounded. -/
def sumU (o d : List Int) : Nat → Int
  | 0 => 0
  | n + 1 => sumU o d n + o.getD n 0 * wtI (d.getD n 0)
theorem prod_small {x w : Int} (hx : -2147483648 ≤ x) (hx' : x ≤ 2147483647) (hw : 1 ≤ w) (hw' : w ≤ 858993478400) : -1844674448602641203200 ≤ x * w ∧ x * w ≤ 1844674448602641203200 := by
  have h1 : x * w ≤ 2147483647 * w := Int.mul_le_mul_of_nonneg_right hx' (by omega)
  have h2 : -2147483648 * w ≤ x * w := Int.mul_le_mul_of_nonneg_right hx (by omega)
  omega
theorem sums_near (o d : List Int) (ho : ∀ i, -2147483648 ≤ o.getD i 0 ∧ o.getD i 0 ≤ 2147483647) (hd : ∀ i, d.getD i 0 ≤ 4294967296) : ∀ n, n ≤ 60 →
    (sumU o d n - (n : Int) * 4294967295 ≤ sumO o d n * 4294967296 ∧ sumO o d n * 4294967296 ≤ sumU o d n) ∧ (-1844674448602641203200 * (n : Int) ≤ sumU o d n ∧ sumU o d n ≤ 1844674448602641203200 * (n : Int)) ∧ ((n : Int) * 4294967296 ≤ sumW d n ∧ sumW d n ≤ (n : Int) * 858993478400)
  | 0, _ => by unfold sumU sumO sumW; omega
  | n + 1, hn => by
    obtain ⟨⟨a1, a2⟩, ⟨a3, a4⟩, a5, a6⟩ := sums_near o d ho hd n (by omega)
    obtain ⟨b1, b2⟩ := ho n
    have w1 := wt_second (hd n)
    have w2 := (wt_range (d.getD n 0) (by have := hd n; omega)).2
    unfold sumU sumO sumW
    generalize o.getD n 0 = x at *
    generalize wtI (d.getD n 0) = w at *
    obtain ⟨p1, p2⟩ := prod_small b1 b2 (by omega) w2
    have hm : mulI x w = x * w / 4294967296 := cutI_in _ (by omega) (by omega)
    rw [hm]
    generalize x * w = q at *
    generalize sumU o d n = U at *
    generalize sumO o d n = S at *
    generalize sumW d n = W at *
    have hn60 : (n : Int) ≤ 59 := by omega
    have hS : addI S (q / 4294967296) = S + q / 4294967296 := cutI_in _ (by omega) (by omega)
    have hW : addI W w = W + w := cutI_in _ (by omega) (by omega)
    rw [hS, hW]
    omega
/-- Of offsets that are all the same. -/
theorem sumU_same (s : Int) (o d : List Int) (n : Nat) (h : ∀ i, i < n → o.getD i 0 = s) (hd : ∀ i, d.getD i 0 ≤ 4294967296) (hn : n ≤ 60) : sumU o d n = s * sumW d n := by
  induction n with
  | zero => unfold sumU sumW; simp
  | succ n ih =>
    have ih := ih (fun i hi => h i (by omega)) (by omega)
    have w2 := (wt_range (d.getD n 0) (by have := hd n; omega)).2
    have w1 := wt_second (hd n)
    have hw := (sums_near [] d (fun i => by simp) hd n (by omega)).2.2
    unfold sumU sumW
    rw [h n (by omega), ih]
    have hW : addI (sumW d n) (wtI (d.getD n 0)) = sumW d n + wtI (d.getD n 0) := cutI_in _ (by omega) (by omega)
    rw [hW, Int.mul_add]
theorem div_pos_is {a b : Int} (hb : 0 < b) : divI a b = cutI (a * 4294967296 / b) := by
  unfold divI
  rw [if_neg (by omega), if_pos hb]
theorem same_mean (s : Int) (h1 : -2147483648 ≤ s) (h2 : s ≤ 2147483647) (o d : List Int) (n : Nat) (h : ∀ i, i < n → o.getD i 0 = s) (ho : ∀ i, -2147483648 ≤ o.getD i 0 ∧ o.getD i 0 ≤ 2147483647) (hd : ∀ i, d.getD i 0 ≤ 4294967296) (hn : n ≤ 60) (h0 : 0 < n) :
    s - 1 ≤ divI (sumO o d n) (sumW d n) ∧ divI (sumO o d n) (sumW d n) ≤ s := by
  obtain ⟨⟨a1, a2⟩, _, a5, a6⟩ := sums_near o d ho hd n hn
  rw [sumU_same s o d n h hd hn] at a1 a2
  have hn' : (1 : Int) ≤ (n : Int) := by omega
  generalize sumO o d n = S at *
  generalize sumW d n = W at *
  have hW : 0 < W := by omega
  rw [div_pos_is hW]
  have u1 : S * 4294967296 / W ≤ s := by
    have := Int.ediv_le_ediv hW a2
    rwa [Int.mul_ediv_cancel _ (by omega)] at this
  have u2 : s - 1 ≤ S * 4294967296 / W := by
    rw [Int.le_ediv_iff_mul_le hW, Int.sub_mul]
    omega
  unfold cutI
  omega
/-- Of two the nearer one counts no less. -/
theorem two_mean (x y a b : Int) (hx : -2147483648 ≤ x ∧ x ≤ 2147483647) (hy : -2147483648 ≤ y ∧ y ≤ 2147483647) (hab : a ≤ b) (ha : 0 ≤ a) (hb : b ≤ 4294967295) (m : Int) (hm : divI (sumO [x, y] [a, b] 2) (sumW [a, b] 2) = m) :
    min x y - 2 ≤ m ∧ m ≤ max x y ∧ ((x ≤ y → 2 * m ≤ x + y) ∧ (y < x → x + y - 4 ≤ 2 * m)) := by
  have ho : ∀ i, -2147483648 ≤ ([x, y] : List Int).getD i 0 ∧ ([x, y] : List Int).getD i 0 ≤ 2147483647 := fun i => by
    match i with
    | 0 => exact hx
    | 1 => exact hy
    | i + 2 => exact ⟨by simp, by simp⟩
  have hd : ∀ i, ([a, b] : List Int).getD i 0 ≤ 4294967296 := fun i => by
    match i with
    | 0 => show a ≤ _; omega
    | 1 => show b ≤ _; omega
    | i + 2 => simp
  obtain ⟨⟨a1, a2⟩, _, a5, a6⟩ := sums_near [x, y] [a, b] ho hd 2 (by omega)
  have w1 := wt_second (show a ≤ 4294967296 by omega)
  have w2 := wt_second (show b ≤ 4294967296 by omega)
  have w3 := wt_mono hab (by omega)
  have w4 := (wt_range a (by omega)).2
  have eU : sumU [x, y] [a, b] 2 = x * wtI a + y * wtI b := by
    unfold sumU sumU sumU
    simp
  have eW : sumW [a, b] 2 = wtI a + wtI b := by
    have e1 : sumW [a, b] 2 = addI (addI 0 (wtI a)) (wtI b) := rfl
    rw [e1]
    unfold addI cutI
    omega
  rw [eU] at a1 a2
  rw [eW] at hm a5 a6
  generalize sumO [x, y] [a, b] 2 = S at *
  generalize wtI a = u at *
  generalize wtI b = v at *
  have hW : 0 < u + v := by omega
  rw [div_pos_is hW] at hm
  have lo : ∀ c : Int, (c * (u + v) ≤ x * u + y * v) → c - 1 ≤ S * 4294967296 / (u + v) := fun c hc => by
    rw [Int.le_ediv_iff_mul_le hW, Int.sub_mul]
    omega
  have up : ∀ c : Int, (x * u + y * v ≤ c * (u + v)) → S * 4294967296 / (u + v) ≤ c := fun c hc => by
    have h : S * 4294967296 ≤ c * (u + v) := by omega
    have := Int.ediv_le_ediv hW h
    rwa [Int.mul_ediv_cancel _ (by omega)] at this
  have xu : min x y * u ≤ x * u := Int.mul_le_mul_of_nonneg_right (by omega) (by omega)
  have yv : min x y * v ≤ y * v := Int.mul_le_mul_of_nonneg_right (by omega) (by omega)
  have xu' : x * u ≤ max x y * u := Int.mul_le_mul_of_nonneg_right (by omega) (by omega)
  have yv' : y * v ≤ max x y * v := Int.mul_le_mul_of_nonneg_right (by omega) (by omega)
  have l0 := lo (min x y) (by rw [Int.mul_add]; omega)
  have u0 := up (max x y) (by rw [Int.mul_add]; omega)
  generalize hq : S * 4294967296 / (u + v) = q at *
  have hmq : m = q := by
    rw [← hm]
    unfold cutI
    omega
  subst hmq
  refine ⟨by omega, u0, fun hxy => ?_, fun hxy => ?_⟩
  · -- 2 m W ≤ 2 S ≤ (x + y) W
    have k := Int.mul_nonneg (show 0 ≤ y - x by omega) (show 0 ≤ u - v by omega)
    have e : (y - x) * (u - v) = y * u - y * v - (x * u - x * v) := by rw [Int.sub_mul, Int.mul_sub, Int.mul_sub]
    have h1 : m * (u + v) ≤ S * 4294967296 := by rw [← hq]; exact Int.ediv_mul_le _ (by omega)
    have h2 : (2 * m) * (u + v) ≤ (x + y) * (u + v) := by
      have e2 : (x + y) * (u + v) = x * u + x * v + (y * u + y * v) := by rw [Int.add_mul, Int.mul_add, Int.mul_add]
      rw [e2, Int.mul_assoc]
      omega
    exact Int.le_of_mul_le_mul_right h2 hW
  · have k := Int.mul_nonneg (show 0 ≤ x - y by omega) (show 0 ≤ u - v by omega)
    have e : (x - y) * (u - v) = x * u - x * v - (y * u - y * v) := by rw [Int.sub_mul, Int.mul_sub, Int.mul_sub]
    have h1 : S * 4294967296 < (m + 1) * (u + v) := by rw [← hq]; exact Int.lt_ediv_add_one_mul_self _ hW
    have h2 : (x + y - 4) * (u + v) ≤ (2 * m) * (u + v) := by
      have e2 : (x + y - 4) * (u + v) = x * u + x * v + (y * u + y * v) - 4 * (u + v) := by rw [Int.sub_mul, Int.add_mul, Int.mul_add, Int.mul_add]
      rw [e2, Int.mul_assoc]
      rw [Int.add_mul] at h1
      omega
    exact Int.le_of_mul_le_mul_right h2 hW
end Go.Proofs.Ytekdablolacgfaa.W
