/- Layer 17 as numbers: nodes that say the same; others, with no jitter; one that is far from all others. No program in it. -/
import Derived.Test.YtefjdmbioclddaaCnA
namespace Go.Proofs.Ytefjdmbioclddaa.W
open Go.RowKit
set_option linter.unusedVariables false
theorem gd_map {f : Nat → Nd} {n i : Nat} (h : i < n) : ((List.range n).map f).getD i Nd.zero = f i := by simp [List.getD, h]
theorem rms_none {z : List Int} (h : ∀ x ∈ z, x = 0) : rmsI z = 0 := by
  have e : z.map (fun x => mulI x x) = List.replicate z.length 0 := by
    refine List.ext_getElem (by simp) fun i h1 h2 => ?_
    rw [List.length_map] at h1
    rw [List.getElem_map, List.getElem_replicate, h _ (List.getElem_mem h1)]
    decide
  unfold rmsI
  rw [e]
  unfold meanI
  split
  · decide
  · rw [List.sum_replicate_int, Int.mul_zero, Int.zero_ediv]
    decide
/-- Nodes that say the same. -/
def sameL (o j : Int) (n : Nat) : List Nd := (List.range n).map fun i : Nat => ⟨o, j, (i : Int)⟩
theorem same_length (o j : Int) (n : Nat) : (sameL o j n).length = n := by simp [sameL]
theorem same_step (o j : Int) (n : Nat) : sameL o j (n + 1) = sameL o j n ++ [⟨o, j, (n : Int)⟩] := by
  unfold sameL
  rw [List.range_succ, List.map_append]
  rfl
theorem same_apt (o j : Int) (n : Nat) {kept : List Nat} (hk : ∀ x ∈ kept, x < n) {i : Nat} (hi : i < kept.length) : aptN (nowL (sameL o j n) kept) i = 0 := by
  have off : ∀ a, a < kept.length → offN (nowL (sameL o j n) kept) a = o := fun a ha => by
    unfold offN
    rw [gd_now _ _ ha]
    unfold sameL
    rw [gd_map (hk _ (by simp [List.getD, ha]))]
  refine rms_none fun x hx => ?_
  obtain ⟨k, hkk, rfl⟩ := List.mem_map.1 hx
  have hk' := List.mem_range.1 (List.mem_filter.1 hkk).1
  rw [now_length] at hk'
  rw [off i hi, off k hk']
  unfold subI
  rw [Int.sub_self]
  decide
theorem same_quiet (o j : Int) (n : Nat) {kept : List Nat} (hk : ∀ x ∈ kept, x < n) (h0 : 0 < kept.length) : quietI (nowL (sameL o j n) kept) = j := by
  have jit : ∀ c ∈ nowL (sameL o j n) kept, c.jit = j := fun c hc => by
    obtain ⟨i, hi, rfl⟩ := List.mem_map.1 hc
    unfold sameL
    rw [gd_map (hk i hi)]
  have hj0 : jitN (nowL (sameL o j n) kept) 0 = j := by
    unfold jitN
    rw [gd_now _ _ h0]
    unfold sameL
    rw [gd_map (hk _ (by simp [List.getD, h0]))]
  unfold quietI
  rw [hj0]
  rcases fmin_in ((nowL (sameL o j n) kept).map Nd.jit) j with e | e
  · exact e
  · obtain ⟨c, hc, e'⟩ := List.mem_map.1 e
    rw [← e', jit c hc]
theorem range_lt (n : Nat) : ∀ x ∈ List.range n, x < n := fun x hx => List.mem_range.1 hx
theorem same_prune (o j : Int) (hj : 0 < j) (n : Nat) (least : Int) : prune (sameL o j n) least = (List.range n, 0) := by
  have hw : (worstP (nowL (sameL o j n) (List.range n))).2 = 0 := by
    rcases Nat.eq_zero_or_pos n with rfl | h
    · rfl
    · have := wst_lt (nowL (sameL o j n) (List.range n)) n h
      unfold worstP
      rw [now_length, List.length_range, this.2]
      exact same_apt o j n (range_lt n) (by rw [List.length_range]; exact this.1)
  unfold prune
  rw [same_length]
  cases n with
  | zero => unfold prnP; rw [hw]
  | succ m =>
    unfold prnP
    split
    · rw [hw]
    · rw [if_pos (by rw [hw, same_quiet o j (m + 1) (range_lt _) (by simp)]; exact hj), hw]
/-- Where nothing is quiet, just as many are kept as are asked for. -/
theorem prn_all (l : List Nd) (least : Int) (hq : ∀ kept : List Nat, (∀ x ∈ kept, x < l.length) → 0 < kept.length → quietI (nowL l kept) ≤ 0) :
    ∀ (f : Nat) (kept : List Nat), (∀ x ∈ kept, x < l.length) → (kept.length : Int) ≤ f + max least 1 → ((prnP l least f kept).1.length : Int) = min (kept.length : Int) (max least 1)
  | 0, kept, h, hf => by show (kept.length : Int) = _; omega
  | f + 1, kept, h, hf => by
    unfold prnP
    split
    · show (kept.length : Int) = _
      omega
    · rename_i g
      have h0 : 0 < kept.length := by omega
      have hn := wst_nonneg (nowL l kept) (nowL l kept).length
      have hqq := hq kept h h0
      rw [if_neg (by show ¬ (wstP (nowL l kept) (nowL l kept).length).2 < _; omega)]
      have hw := worst_at (l := nowL l kept) (by rw [now_length]; exact h0)
      rw [now_length] at hw
      have hl := gone_length hw
      rw [prn_all l least hq f _ (fun x hx => h x (gone_mem hx)) (by omega), hl]
      omega
theorem quiet_zero {l : List Nd} (hj : ∀ i, i < l.length → jitN l i = 0) {kept : List Nat} (hk : ∀ x ∈ kept, x < l.length) (h0 : 0 < kept.length) : quietI (nowL l kept) ≤ 0 := by
  have : jitN (nowL l kept) 0 = 0 := by
    unfold jitN
    rw [gd_now _ _ h0]
    exact hj _ (hk _ (by simp [List.getD, h0]))
  unfold quietI
  rw [this]
  exact (fmin_le _ _).1
theorem prune_all {l : List Nd} (hj : ∀ i, i < l.length → jitN l i = 0) (least : Int) : ((prune l least).1.length : Int) = min (l.length : Int) (max least 1) := by
  unfold prune
  rw [prn_all l least (fun kept hk h0 => quiet_zero hj hk h0) _ _ (range_lt _) (by rw [List.length_range]; omega), List.length_range]
/-- Nodes beside each other. -/
def rowL (g : Int) (n : Nat) : List Nd := (List.range n).map fun i : Nat => ⟨(i : Int) * g, 0, (i : Int)⟩
theorem row_length (g : Int) (n : Nat) : (rowL g n).length = n := by simp [rowL]
theorem row_step (g : Int) (n : Nat) : rowL g (n + 1) = rowL g n ++ [⟨(n : Int) * g, 0, (n : Int)⟩] := by
  unfold rowL
  rw [List.range_succ, List.map_append]
  rfl
theorem row_jit (g : Int) (n : Nat) : ∀ i, i < (rowL g n).length → jitN (rowL g n) i = 0 := fun i hi => by
  rw [row_length] at hi
  unfold jitN rowL
  rw [gd_map hi]
/-- One node that is far from all others. -/
def oneL (F : Int) (k n : Nat) : List Nd := (List.range n).map fun i : Nat => ⟨if i = k then F else 0, 0, 5⟩
theorem one_length (F : Int) (k n : Nat) : (oneL F k n).length = n := by simp [oneL]
theorem one_step (F : Int) (k n : Nat) : oneL F k (n + 1) = oneL F k n ++ [⟨if n = k then F else 0, 0, 5⟩] := by
  unfold oneL
  rw [List.range_succ, List.map_append]
  rfl
theorem one_off {F : Int} {k n i : Nat} (h : i < n) : offN (oneL F k n) i = if i = k then F else 0 := by
  unfold offN oneL
  rw [gd_map h]
theorem one_jit (F : Int) (k n : Nat) : ∀ i, i < (oneL F k n).length → jitN (oneL F k n) i = 0 := fun i hi => by
  rw [one_length] at hi
  unfold jitN oneL
  rw [gd_map hi]
theorem root_less {S M : Int} (hS : 65536 ≤ S) (h0 : 0 ≤ M) (hM : M ≤ S / 2) : rootI M < rootI S := by
  have hr := rootI_nonneg M
  have h1 := (le_rootI M (rootI M) h0 hr).1 (Int.le_refl _)
  generalize rootI M = r at *
  refine (le_rootI S (r + 1) (by omega) (by omega)).2 ?_
  have e : (r + 1) * (r + 1) = r * r + 2 * r + 1 := by
    rw [Int.add_mul, Int.mul_add, Int.mul_one, Int.one_mul]
    omega
  rw [e]
  have h2 : r * r ≤ S * 2147483648 := by omega
  have h3 : 2 * r + 1 ≤ S * 2147483648 := by
    refine Classical.byContradiction fun g => ?_
    have g1 : S * 2147483648 ≤ 2 * r := by omega
    have g2 : 3 ≤ r := by omega
    have g3 : 3 * r ≤ r * r := Int.mul_le_mul_of_nonneg_right g2 hr
    omega
  omega
theorem mean_all {S : Int} (hS : -9223372036854775807 ≤ S ∧ S ≤ 9223372036854775807) {z : List Int} (h0 : z ≠ []) (h : ∀ x ∈ z, x = S) : meanI z = S := by
  have e : z = List.replicate z.length S := List.eq_replicate_iff.2 ⟨rfl, h⟩
  have hl := List.length_pos_iff.2 h0
  unfold meanI
  rw [if_neg (by omega), e, List.length_replicate, List.sum_replicate_int, Int.mul_ediv_cancel_left _ (by omega)]
  exact cutI_in _ hS.1 hS.2
theorem others_length (i : Nat) : ∀ n, ((List.range n).filter fun k => decide (k ≠ i)).length = if i < n then n - 1 else n
  | 0 => by simp
  | n + 1 => by
    rw [List.range_succ, List.filter_append, List.length_append, others_length i n]
    by_cases h : n = i
    · subst h
      simp
    · have e : (List.filter (fun k => decide (k ≠ i)) [n]).length = 1 := by simp [h]
      rw [e]
      split <;> split <;> omega
theorem sum_one {S : Int} (h0 : 0 ≤ S) (k : Nat) : ∀ z : List Nat, z.Nodup → 0 ≤ (z.map fun a => if a = k then S else 0).sum ∧ (z.map fun a => if a = k then S else 0).sum ≤ S ∧ (k ∉ z → (z.map fun a => if a = k then S else 0).sum = 0)
  | [], _ => ⟨Int.le_refl _, h0, fun _ => rfl⟩
  | a :: z, h => by
    obtain ⟨h1, h2⟩ := List.nodup_cons.1 h
    obtain ⟨i1, i2, i3⟩ := sum_one h0 k z h2
    rw [List.map_cons, List.sum_cons]
    by_cases e : a = k
    · subst e
      rw [if_pos rfl, i3 h1]
      refine ⟨by omega, by omega, fun g => absurd List.mem_cons_self g⟩
    · rw [if_neg e]
      refine ⟨by omega, by omega, fun g => ?_⟩
      rw [i3 (fun g' => g (List.mem_cons_of_mem _ g'))]
      rfl
theorem sq_range {F : Int} (hF : 16777216 ≤ F ∧ F ≤ 9223372036854775807) : 65536 ≤ mulI F F ∧ mulI F F ≤ 9223372036854775807 := by
  unfold mulI
  refine ⟨?_, (cutI_range _).2⟩
  have h1 : 281474976710656 ≤ F * F := by
    have := Int.mul_le_mul hF.1 hF.1 (by decide) (by omega)
    omega
  have h2 : 65536 ≤ F * F / 4294967296 := by omega
  unfold cutI
  omega
theorem one_far {F : Int} (hF : 16777216 ≤ F ∧ F ≤ 9223372036854775807) {k n : Nat} (hk : k < n) (hn : 3 ≤ n) : aptN (oneL F k n) k = rootI (mulI F F) := by
  unfold aptN rmsI
  congr 1
  refine mean_all ⟨by have := (sq_range hF).1; omega, (sq_range hF).2⟩ ?_ ?_
  · have h : ((difN (oneL F k n) k).map fun x => mulI x x).length = n - 1 := by
      unfold difN
      rw [List.length_map, List.length_map, one_length, others_length, if_pos hk]
    intro e
    rw [e] at h
    simp at h
    omega
  · intro x hx
    obtain ⟨y, hy, rfl⟩ := List.mem_map.1 hx
    obtain ⟨a, ha, rfl⟩ := List.mem_map.1 hy
    obtain ⟨ha1, ha2⟩ := List.mem_filter.1 ha
    rw [List.mem_range, one_length] at ha1
    have hak : a ≠ k := by simpa using ha2
    rw [one_off hk, one_off ha1, if_pos rfl, if_neg hak]
    have : subI F 0 = F := by unfold subI; rw [Int.sub_zero]; exact cutI_in _ (by omega) hF.2
    rw [this]
theorem one_near {F : Int} (hF : 16777216 ≤ F ∧ F ≤ 9223372036854775807) {k n i : Nat} (hk : k < n) (hn : 3 ≤ n) (hi : i < n) (hik : i ≠ k) : aptN (oneL F k n) i < rootI (mulI F F) := by
  have hS := sq_range hF
  have hz : (difN (oneL F k n) i).map (fun x => mulI x x) = ((List.range n).filter fun a => decide (a ≠ i)).map fun a => if a = k then mulI F F else 0 := by
    unfold difN
    rw [List.map_map, one_length]
    refine List.map_congr_left fun a ha => ?_
    have ha1 := List.mem_range.1 (List.mem_filter.1 ha).1
    show mulI (subI (offN (oneL F k n) i) (offN (oneL F k n) a)) (subI (offN (oneL F k n) i) (offN (oneL F k n) a)) = _
    rw [one_off hi, one_off ha1, if_neg hik]
    by_cases e : a = k
    · rw [if_pos e, if_pos e]
      have : subI 0 F = -F := by unfold subI; rw [Int.zero_sub]; exact cutI_in _ (by omega) (by omega)
      rw [this]
      unfold mulI
      rw [Int.neg_mul_neg]
    · rw [if_neg e, if_neg e]
      decide
  have hl : (((List.range n).filter fun a => decide (a ≠ i)).map fun a => if a = k then mulI F F else 0).length = n - 1 := by
    rw [List.length_map, others_length, if_pos hi]
  obtain ⟨s1, s2, _⟩ := sum_one (S := mulI F F) (by omega) k ((List.range n).filter fun a => decide (a ≠ i)) (List.nodup_range.filter _)
  unfold aptN rmsI
  rw [hz]
  generalize (((List.range n).filter fun a => decide (a ≠ i)).map fun a => if a = k then mulI F F else 0) = z at *
  generalize mulI F F = S at *
  unfold meanI
  rw [if_neg (by omega), hl]
  have hq0 : 0 ≤ z.sum / ((n - 1 : Nat) : Int) := Int.ediv_nonneg s1 (by omega)
  have hq1 : z.sum / ((n - 1 : Nat) : Int) * ((n - 1 : Nat) : Int) ≤ z.sum := Int.ediv_mul_le _ (by omega)
  have hq2 : z.sum / ((n - 1 : Nat) : Int) * 2 ≤ z.sum / ((n - 1 : Nat) : Int) * ((n - 1 : Nat) : Int) := Int.mul_le_mul_of_nonneg_left (by omega) hq0
  generalize z.sum / ((n - 1 : Nat) : Int) = q at *
  rw [cutI_in q (by omega) (by omega)]
  exact root_less hS.1 hq0 (by omega)
theorem one_worst {F : Int} (hF : 16777216 ≤ F ∧ F ≤ 9223372036854775807) {k n : Nat} (hk : k < n) (hn : 3 ≤ n) : worstP (oneL F k n) = (k, rootI (mulI F F)) ∧ 0 < rootI (mulI F F) := by
  have h1 := wst_lt (oneL F k n) n (by omega)
  have h2 := wst_max (oneL F k n) n k hk
  rw [one_far hF hk hn, h1.2] at h2
  have hik : (wstP (oneL F k n) n).1 = k := by
    refine Classical.byContradiction fun g => ?_
    have := one_near hF hk hn h1.1 g
    omega
  constructor
  · unfold worstP
    rw [one_length]
    refine Prod.ext hik ?_
    rw [h1.2, hik]
    exact one_far hF hk hn
  · have hS := sq_range hF
    have := root_less hS.1 (Int.le_refl 0) (by omega)
    have h0 := rootI_nonneg 0
    omega
theorem now_all (l : List Nd) : nowL l (List.range l.length) = l := by
  refine List.ext_getElem? fun i => ?_
  unfold nowL
  rw [List.getElem?_map]
  by_cases h : i < l.length
  · rw [List.getElem?_range h]
    simp [List.getD, h]
  · rw [List.getElem?_eq_none (by rw [List.length_range]; omega), List.getElem?_eq_none (by omega)]
    rfl
theorem one_prune {F : Int} (hF : 16777216 ≤ F ∧ F ≤ 9223372036854775807) {k n : Nat} (hk : k < n) (hn : 3 ≤ n) : (prune (oneL F k n) ((n : Int) - 1)).1.length = n - 1 ∧ k ∉ (prune (oneL F k n) ((n : Int) - 1)).1 := by
  have hw := (one_worst hF hk hn).1
  have e : (prune (oneL F k n) ((n : Int) - 1)).1 = (List.range n).eraseIdx k := by
    unfold prune
    rw [one_length]
    obtain ⟨m, rfl⟩ : ∃ m, n = m + 1 := ⟨n - 1, by omega⟩
    have hna : nowL (oneL F k (m + 1)) (List.range (m + 1)) = oneL F k (m + 1) := by
      have := now_all (oneL F k (m + 1))
      rwa [one_length] at this
    have hq : quietI (oneL F k (m + 1)) ≤ 0 := by
      rw [← hna]
      exact quiet_zero (one_jit F k (m + 1)) (by rw [one_length]; exact range_lt _) (by simp)
    have hr := rootI_nonneg (mulI F F)
    rw [prnP, if_neg (by rw [List.length_range]; omega), hna, hw, if_neg (by show ¬ rootI (mulI F F) < _; omega)]
    show (prnP _ _ m ((List.range (m + 1)).eraseIdx k)).1 = _
    have hl : ((List.range (m + 1)).eraseIdx k).length = m := by
      rw [List.length_eraseIdx_of_lt (by rw [List.length_range]; exact hk), List.length_range]
      omega
    obtain ⟨f, rfl⟩ : ∃ f, m = f + 1 := ⟨m - 1, by omega⟩
    rw [prnP, if_pos (by rw [hl]; omega)]
  rw [e]
  refine ⟨by rw [List.length_eraseIdx_of_lt (by rw [List.length_range]; exact hk), List.length_range], fun g => ?_⟩
  rw [List.mem_eraseIdx_iff_getElem?] at g
  obtain ⟨i, hi, hx⟩ := g
  obtain ⟨h1, h2⟩ := List.getElem?_eq_some_iff.1 hx
  rw [List.getElem_range] at h2
  exact hi h2
/-- Nodes that are all moved alike. -/
def mvL (d : Int) (z y : List Int) (n : Nat) : List Nd := (List.range n).map fun i : Nat => ⟨z.getD i 0 + d, y.getD i 0, (i : Int)⟩
theorem mv_length (d : Int) (z y : List Int) (n : Nat) : (mvL d z y n).length = n := by simp [mvL]
theorem mv_step (d : Int) {z y : List Int} {n : Nat} {a b : Int} (ha : z[n]? = some a) (hb : y[n]? = some b) : mvL d z y (n + 1) = mvL d z y n ++ [⟨a + d, b, (n : Int)⟩] := by
  unfold mvL
  rw [List.range_succ, List.map_append]
  simp [List.getD, ha, hb]
theorem fmin_add (d : Int) : ∀ (z : List Int) (s : Int), (z.map (· + d)).foldl min (s + d) = z.foldl min s + d
  | [], s => rfl
  | x :: z, s => by
    rw [List.map_cons, List.foldl_cons, List.foldl_cons, ← fmin_add d z (min s x)]
    congr 1
    omega
theorem fmax_add (d : Int) : ∀ (z : List Int) (s : Int), (z.map (· + d)).foldl max (s + d) = z.foldl max s + d
  | [], s => rfl
  | x :: z, s => by
    rw [List.map_cons, List.foldl_cons, List.foldl_cons, ← fmax_add d z (max s x)]
    congr 1
    omega
theorem mv_offs (d : Int) (z y : List Int) (n : Nat) : (mvL d z y n).map Nd.off = ((mvL 0 z y n).map Nd.off).map (· + d) := by
  unfold mvL
  rw [List.map_map, List.map_map, List.map_map]
  refine List.map_congr_left fun i _ => ?_
  show z.getD i 0 + d = z.getD i 0 + 0 + d
  omega
theorem mv_off (d : Int) (z y : List Int) {n i : Nat} (h : i < n) : offN (mvL d z y n) i = z.getD i 0 + d := by
  unfold offN mvL
  rw [gd_map h]
theorem mv_spread (d : Int) (z y : List Int) (n : Nat) : spreadI (mvL d z y n) = spreadI (mvL 0 z y n) := by
  rcases Nat.eq_zero_or_pos n with rfl | h
  · rfl
  · have ne : ∀ e, mvL e z y n ≠ [] := fun e he => by
      have := mv_length e z y n
      rw [he] at this
      simp at this
      omega
    unfold spreadI
    rw [if_neg (ne d), if_neg (ne 0)]
    have e1 : lowN (mvL d z y n) = lowN (mvL 0 z y n) + d := by
      unfold lowN
      rw [mv_offs, mv_off d z y h, mv_off 0 z y h, ← fmin_add, Int.add_zero]
    have e2 : highN (mvL d z y n) = highN (mvL 0 z y n) + d := by
      unfold highN
      rw [mv_offs, mv_off d z y h, mv_off 0 z y h, ← fmax_add, Int.add_zero]
    rw [e1, e2]
    unfold subI
    congr 1
    omega
theorem mv_prune (d : Int) (z y : List Int) (n : Nat) (least : Int) : prune (mvL d z y n) least = prune (mvL 0 z y n) least := by
  refine prune_moved least (by rw [mv_length, mv_length]) (fun i k hi hk => ?_) (fun i hi => ?_) (fun i hi => ?_)
  · rw [mv_length] at hi hk
    rw [mv_off _ _ _ hi, mv_off _ _ _ hk, mv_off _ _ _ hi, mv_off _ _ _ hk]
    unfold subI
    congr 1
    omega
  · rw [mv_length] at hi
    unfold metNd mvL
    rw [gd_map hi, gd_map hi]
  · rw [mv_length] at hi
    unfold jitN mvL
    rw [gd_map hi, gd_map hi]
end Go.Proofs.Ytefjdmbioclddaa.W
