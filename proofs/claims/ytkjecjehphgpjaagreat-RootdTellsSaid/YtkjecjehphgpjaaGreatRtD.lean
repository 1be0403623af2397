/- Layer 15's own code, walked: servers put in order. -/
import Derived.Test.YtkjecjehphgpjaaGreatRtC
import Derived.Test.YtkjecjehphgpjaaGreatSrF
import Derived.Test.YtkjecjehphgpjaaGreatFwC
import Derived.Test.YtkjecjehphgpjaaGreatPlA
import Derived.Deep.DeepCutAuto
import Derived.Deep.RegionWith
namespace Go.Proofs.YtkjecjehphgpjaaGreat.W
open Go.RowKit Go.Sort
set_option linter.unusedVariables false
set_option linter.unusedSimpArgs false
theorem info_intD : (Tryz.prog.info? 3).map (fun i => (i.zero, i.size, i.bytes)) = some (some (.int .i64 0), 1, 8) := by kernel_rfl
/-- A row of which the first k places have come. -/
def rowG (f : Nat → Int) (n k : Nat) : Array Value := ((List.range n).map fun j => Value.int .i64 (if j < k then f j else 0)).toArray
theorem rowG_size (f : Nat → Int) (n k : Nat) : (rowG f n k).size = n := by simp [rowG]
theorem rowG_get (f : Nat → Int) (n k j : Nat) (h : j < n) : (rowG f n k)[j]? = some (.int .i64 (if j < k then f j else 0)) := by
  simp [rowG, h]
theorem rowG_zero (f : Nat → Int) (n : Nat) : madeCells #[.int .i64 0] (n * 1) = rowG f n 0 := by
  apply Array.ext_getElem?
  intro j
  rw [Nat.mul_one]
  by_cases h : j < n
  · rw [rowG_get f n 0 j h]
    simp [madeCells, h, Nat.mod_one]
  · rw [Array.getElem?_eq_none (by rw [size_madeCells]; omega), Array.getElem?_eq_none (by rw [rowG_size]; omega)]
theorem rowG_set (f : Nat → Int) (n k : Nat) (h : k < n) : (rowG f n k).setIfInBounds k (.int .i64 (f k)) = rowG f n (k + 1) := by
  apply Array.ext_getElem?
  intro j
  rw [Array.getElem?_setIfInBounds]
  by_cases hj : j < n
  · rw [rowG_get f n k j hj, rowG_get f n (k + 1) j hj]
    by_cases e : k = j
    · subst e
      simp [rowG_size, h]
    · rw [if_neg e]
      by_cases g : j < k
      · rw [if_pos g, if_pos (by omega)]
      · rw [if_neg g, if_neg (by omega)]
  · rw [Array.getElem?_eq_none (by rw [rowG_size]; omega : (rowG f n (k + 1)).size ≤ j), if_neg (by omega), Array.getElem?_eq_none (by rw [rowG_size]; omega)]
/-! Places, sorted: stable. -/
def befP (m : Nat → Int) (a b : Nat) : Prop := m a < m b ∨ m a = m b ∧ a < b
theorem insP_stable {m : Nat → Int} {i : Nat} : ∀ {l : List Nat}, (∀ x ∈ l, x < i) → l.Pairwise (befP m) → (insP m i l).Pairwise (befP m)
  | [], _, _ => by simp [insP]
  | y :: l, hl, h => by
    obtain ⟨h1, h2⟩ := List.pairwise_cons.1 h
    unfold insP
    split
    · rename_i hlt
      refine List.pairwise_cons.2 ⟨?_, h⟩
      intro x hx
      rcases List.mem_cons.1 hx with rfl | hx
      · exact .inl hlt
      · have := h1 x hx
        unfold befP at *
        omega
    · rename_i hlt
      refine List.pairwise_cons.2 ⟨?_, insP_stable (fun x hx => hl x (List.mem_cons_of_mem _ hx)) h2⟩
      intro x hx
      rcases insP_mem.1 hx with rfl | hx
      · have := hl y List.mem_cons_self
        unfold befP
        omega
      · exact h1 x hx
theorem sortP_stable (m : Nat → Int) : ∀ n, (sortP m n).Pairwise (befP m)
  | 0 => List.Pairwise.nil
  | n + 1 => by
    rw [sortP_next]
    exact insP_stable (fun x hx => (sortP_mem m n x).1 hx) (sortP_stable m n)
theorem insP_perm (m : Nat → Int) (i : Nat) : ∀ l, (insP m i l).Perm (i :: l)
  | [] => List.Perm.refl _
  | y :: l => by
    unfold insP
    split
    · exact List.Perm.refl _
    · exact ((insP_perm m i l).cons y).trans (List.Perm.swap i y l)
theorem sortP_perm (m : Nat → Int) : ∀ n, (sortP m n).Perm (List.range n)
  | 0 => List.Perm.refl _
  | n + 1 => by
    rw [sortP_next, List.range_succ]
    exact (insP_perm m n _).trans (((sortP_perm m n).cons n).trans (List.perm_append_singleton n _).symm)
/-- Places in the order of their numbers, each once: there is one such row. -/
theorem sorted_is {K : Nat} {m : Nat → Int} {n : Nat} {d0 d : Array (Fin (K + 1))} (h0 : d0.size = n) (hI : Idn 0 n d0) (hP : PermIn 0 n d0 d) (hS : SortedIn (ordZ fun x : Fin (K + 1) => m x.val) 0 n d) : d.toList.map (fun x => x.val) = sortP m n := by
  have hd : d.size = n := hP.1.trans h0
  have e1 : (d.extract 0 n).toList = d.toList := by rw [← hd]; simp
  have e2 : (d0.extract 0 n).toList = d0.toList := by rw [← h0]; simp
  have p1 : (d.toList.map fun x => x.val).Perm (d0.toList.map fun x => x.val) := by
    have := hP.2.2
    rw [e1, e2] at this
    exact this.map _
  have e3 : d0.toList.map (fun x => x.val) = List.range n := by
    apply List.ext_getElem
    · simp [h0]
    · intro i h1 h2
      have hi : i < d0.size := by simpa using h1
      have := hI i (Nat.zero_le _) (by omega)
      rw [getElem!_pos d0 i hi] at this
      simpa using this
  rw [e3] at p1
  refine List.Perm.eq_of_pairwise (le := befP m) ?_ ?_ (sortP_stable m n) (p1.trans (sortP_perm m n).symm)
  · intro a b _ _ h1 h2
    unfold befP at h1 h2
    omega
  · refine List.pairwise_iff_getElem.2 fun i j hi hj hij => ?_
    have hi' : i < d.size := by simpa using hi
    have hj' : j < d.size := by simpa using hj
    have := hS i j (Nat.zero_le _) hij (by omega)
    rw [getElem!_pos d i hi', getElem!_pos d j hj'] at this
    unfold ordZ at this
    have := of_decide_eq_false this
    dsimp only at this
    have hne : (d[i]'hi').val ≠ (d[j]'hj').val := by
      have nd : (d.toList.map fun x => x.val).Nodup := p1.symm.nodup List.nodup_range
      have := List.pairwise_iff_getElem.1 nd i j hi hj hij
      simpa using this
    have e4 : (d.toList.map fun x => x.val)[i] = (d[i]'hi').val := by simp
    have e5 : (d.toList.map fun x => x.val)[j] = (d[j]'hj').val := by simp
    rw [e4, e5]
    unfold befP
    omega
theorem neg15 (a b : Int) : decide (cmp3 a b < 0) = decide (a < b) := by
  unfold cmp3
  by_cases h : a < b
  · rw [if_pos h, decide_eq_true h]
    rfl
  · rw [if_neg h, decide_eq_false h]
    by_cases g : b < a
    · rw [if_pos g]
      rfl
    · rw [if_neg g]
      rfl
theorem sort_far15 {K : Nat} {w : World} {blk m k : Nat} {dk : Array (Fin (K + 1))} {os : Array Obj} (hk : k < w.heap.size) (hne : k ≠ blk) : (sortWorld plZ w blk 0 m dk os).heap[k]? = w.heap[k]? := by
  unfold sortWorld
  rw [Go.Sort.heap_grow_old _ _ (by simpa using hk)]
  have : blk ≠ k := fun e => hne e.symm
  simp [putRow, mapBlock, Sort.ahead, Array.getElem?_modify, this]
theorem goes_cmp15 (args : Array Value) (w : World) : (callFunc 33 args).run Tryz.prog w = .ok (.enter 33 args) w := by kernel_rfl
set_option maxRecDepth 100000 in
set_option maxHeartbeats 3200000 in
theorem tcmp_any (m : Nat → Int) (n x y : Nat) (hx : x < n) (hy : y < n) (gm gc : Nat) (w : World) (hm : w.heap[gm]? = some (.cells (rowG m n n) 2 (0, 0))) (hc : w.heap[gc]? = some (.cells #[.slice (some ⟨gm, 0, none⟩) n n] 58 (0, 0))) :
    Calls Tryz.prog 33 #[.int .i64 x, .int .i64 y, .pointer (some ⟨gc, 0, none⟩)] w fun e w' => e = .returned (.int .i64 (cmp3 (m x) (m y))) ∧ ∃ q, w' = w.drewN q := by
  have cx : w.cell? ⟨gm, x, none⟩ = some (.int .i64 (m x)) := by
    simp only [World.cell?, hm, Option.bind_some, rowG_get m n n x hx, if_pos hx]
    rfl
  have cy : w.cell? ⟨gm, y, none⟩ = some (.int .i64 (m y)) := by
    simp only [World.cell?, hm, Option.bind_some, rowG_get m n n y hy, if_pos hy]
    rfl
  have cc : w.cell? ⟨gc, 0, none⟩ = some (.slice (some ⟨gm, 0, none⟩) n n) := by
    simp only [World.cell?, hc, Option.bind_some]
    rfl
  have c := fcmp_any (m x) (m y)
  generalize cmp3 (m x) (m y) = z at *
  generalize m x = vx at *
  generalize m y = vy at *
  have lx : (x : Int) < (n : Int) := by omega
  have ly : (y : Int) < (n : Int) := by omega
  have gx : (0 : Int) ≤ x := by omega
  have gy : (0 : Int) ≤ y := by omega
  clear hm hc
  go_enter Tryz.func33, Tryz.ntmps33
  go_upto_region 1 with fail
  go_quiet (exact quiet_eq (c _))
  go_wp2_with fail
  go_ret
  exact ⟨rfl, _, rfl⟩
/-- Nothing to be sorted. -/
theorem stab_none (p : Option Addr) (cap : Nat) (fv : Value) (w : World) : Calls Tryz.prog 32 #[.slice p 0 cap, fv] w fun e w' => e = .returned (.tuple #[]) ∧ w = w' := by
  have c1 : ∀ W : World, Calls Tryz.prog 58 #[.slice p 0 cap, .int .i64 0, .int .i64 0, fv] W fun e w' => e = .returned (.tuple #[]) ∧ W = w' := fun W => by
    go_enter Tryz.func58, Tryz.ntmps58
    go_wp2_with fail
    refine wp_loop_rounds 1 ?_
    rw [rounds_succ]
    go_wp2_with fail
    go_end0
    exact ⟨rfl, rfl⟩
  have c2 : ∀ W : World, Calls Tryz.prog 48 #[.slice p 0 cap, .int .i64 0, fv] W fun e w' => e = .returned (.tuple #[]) ∧ W = w' := fun W => by
    go_enter Tryz.func48, Tryz.ntmps48
    go_wp2_with fail
    refine wp_loop_rounds 1 ?_
    rw [rounds_succ]
    go_wp2_with fail
    (with_reducible refine (c1 _).mono ?_)
    rintro e w2 ⟨rfl, rfl⟩
    go_wp2_with fail
    refine wp_loop_rounds 1 ?_
    rw [rounds_succ]
    go_wp2_with fail
    go_end0
    exact ⟨rfl, rfl⟩
  go_enter Tryz.func32, Tryz.ntmps32
  go_wp2_with fail
  (with_reducible refine (c2 _).mono ?_)
  rintro e w2 ⟨rfl, rfl⟩
  go_wp2_with fail
  go_end0
  exact ⟨rfl, rfl⟩
/-- The identity's row, sorted by the closure. -/
theorem tstab_any (m : Nat → Int) (n : Nat) (h60 : n ≤ 60) (gp gm gc : Nat) (w : World) (hp : w.heap[gp]? = some (.cells (rowG (fun j => (j : Int)) n n) 3 (0, 0))) (hm : w.heap[gm]? = some (.cells (rowG m n n) 2 (0, 0))) (hc : w.heap[gc]? = some (.cells #[.slice (some ⟨gm, 0, none⟩) n n] 58 (0, 0))) (pm : gp ≠ gm) (pc : gp ≠ gc) {B : Nat} (hB : B ≤ gp) :
    Calls Tryz.prog 32 #[.slice (some ⟨gp, 0, none⟩) n n, .func (.func 33) #[] #[.pointer (some ⟨gc, 0, none⟩)]] w fun e w' =>
      e = .returned (.tuple #[]) ∧ SlAt (fun b => B ≤ b ∧ b < w'.heap.size) 1 plE w' (.slice (some ⟨gp, 0, none⟩) n n) (sortP m n) ∧ ∀ W : World, B ≤ W.heap.size → Below B W w → Below B W w' := by
  have lp := (Array.getElem?_eq_some_iff.1 hp).1
  have lm := (Array.getElem?_eq_some_iff.1 hm).1
  have lc := (Array.getElem?_eq_some_iff.1 hc).1
  by_cases h0 : n = 0
  · subst h0
    refine (stab_none _ _ _ w).mono ?_
    rintro e w' ⟨rfl, rfl⟩
    exact ⟨rfl, .inl ⟨_, _, rfl, (fun h => by cases h), rfl⟩, fun W _ h => h⟩
  · obtain ⟨K, rfl⟩ : ∃ K, n = K + 1 := ⟨n - 1, by omega⟩
    let d0 : Array (Fin (K + 1)) := Array.ofFn fun i => i
    have hs : d0.size = K + 1 := by simp [d0]
    have hI : Idn 0 (K + 1) d0 := fun t _ ht => by
      rw [getElem!_pos d0 t (by rw [hs]; exact ht)]
      simp [d0]
    have hh : Holds plZ w gp 0 d0 := by
      intro j hj
      rw [hs] at hj
      have e : (d0[j]!).val = j := hI j (Nat.zero_le _) hj
      rw [Nat.zero_add]
      refine ⟨?_, ?_⟩
      · unfold plZ
        rw [e]
        simp only [World.cell?, hp, Option.bind_some, rowG_get _ _ _ j hj, if_pos hj]
        rfl
      · simp [World.frozen?, hp]
    have R : RowZ w gp d0 := ⟨hh, lp⟩
    have C : Cmp w gp d0 33 #[.pointer (some ⟨gc, 0, none⟩)] (fun x y : Fin (K + 1) => cmp3 (m x.val) (m y.val)) := ⟨goes_cmp15, fun q os dk _ x y => tcmp_any m (K + 1) x.val y.val x.isLt y.isLt gm gc _ ((sort_far15 lm pm.symm).trans hm) ((sort_far15 lc pc.symm).trans hc)⟩
    have hcf : Go.Proofs.ltOf (fun x y : Fin (K + 1) => cmp3 (m x.val) (m y.val)) = ltZ (fun x : Fin (K + 1) => m x.val) := by
      funext x y
      unfold Go.Proofs.ltOf ltZ
      exact neg15 _ _
    have c := stab_any R C (fun x : Fin (K + 1) => m x.val) hcf (K + 1) d0 rfl (by rw [hs]; exact hI) w (Go.Proofs.SW.start hh) (by rw [hs]; exact h60)
    rw [hs] at c
    refine c.mono ?_
    rintro e w' ⟨rfl, d', S, hd, P, O⟩
    have hL := sorted_is hs hI P O
    refine ⟨rfl, .inr ⟨gp, 0, K + 1, by rw [sortP_length], ⟨hB, Nat.lt_of_lt_of_le lp (Go.Proofs.SW.le S)⟩, fun i x hx j u hu => ?_⟩, fun W hW h => ?_⟩
    · have hi : i < d'.size := by
        have := (List.getElem?_eq_some_iff.1 hx).1
        rw [sortP_length] at this
        rw [hd]
        exact this
      have hj : j = 0 := by
        have := (List.getElem?_eq_some_iff.1 hu).1
        simp [plE] at this
        exact this
      subst hj
      simp [plE] at hu
      subst hu
      have c1 := rw_cell R S (hd.trans hs.symm) i hi
      rw [getElem!_pos d' i hi] at c1
      rw [← hL] at hx
      have e : (d'[i]'hi).val = x := by
        simp [hi] at hx
        exact hx
      rw [e] at c1
      rw [Nat.mul_one, Nat.zero_add, Nat.add_zero]
      exact c1
    · obtain ⟨q, os, rfl⟩ := S
      refine h.trans ⟨rfl, rfl, rfl, by unfold sortWorld; rw [size_grow, Go.Proofs.size_putRow]; show w.heap.size ≤ w.heap.size + _; omega, fun k hk => ?_⟩
      have := h.size
      exact sort_far15 (by omega) (by omega)
/-- Three new blocks: places, numbers, where the numbers lie. -/
structure Rows3 (w W : World) (gp gm gc : Nat) (P M C : Obj) : Prop where
  p : W.heap[gp]? = some P
  m : W.heap[gm]? = some M
  c : W.heap[gc]? = some C
  pm : gp ≠ gm
  pc : gp ≠ gc
  mc : gm ≠ gc
  gep : w.heap.size ≤ gp
  gem : w.heap.size ≤ gm
  gec : w.heap.size ≤ gc
  below : Below w.heap.size w W
theorem three_box (w : World) (A B C : Array Value) (ta tb tc : TypeId) :
    (((w.alloc (.cells A ta)).alloc (.cells B tb)).alloc (.cells C tc)).drew.heap[w.heap.size]? = some (.cells A ta (0, 0)) ∧ (((w.alloc (.cells A ta)).alloc (.cells B tb)).alloc (.cells C tc)).drew.heap[w.heap.size + 1]? = some (.cells B tb (0, 0)) ∧ (((w.alloc (.cells A ta)).alloc (.cells B tb)).alloc (.cells C tc)).drew.heap[w.heap.size + 1 + 1]? = some (.cells C tc (0, 0)) ∧ Below w.heap.size w (((w.alloc (.cells A ta)).alloc (.cells B tb)).alloc (.cells C tc)).drew := by
  refine ⟨laid _ (laid _ (heap_alloc_new w _)), laid _ ?_, ?_, Below.drew ((((Below.refl w.heap.size w).alloc (Nat.le_refl _) _).alloc (by simp) _).alloc (by simp; omega) _)⟩
  · have := heap_alloc_new (w.alloc (.cells A ta)) (.cells B tb)
    simpa [World.size_alloc] using this
  · have := heap_alloc_new ((w.alloc (.cells A ta)).alloc (.cells B tb)) (.cells C tc)
    rw [World.size_alloc, World.size_alloc] at this
    exact this
/-- A round of the order's making: a place, a number. -/
theorem sort_round {m : Nat → Int} {w1 w2 w3 : World} {gp gm gc n i : Nat} (H : Rows3 w1 w2 gp gm gc (.cells (rowG (fun j => (j : Int)) n i) 3 (0, 0)) (.cells (rowG m n i) 2 (0, 0)) (.cells #[.slice (some ⟨gm, 0, none⟩) n n] 58 (0, 0))) (hw : Below w2.heap.size w2 w3) (hlt : i < n) (M : Int) (hM : m i = M) :
    w3.cell? ⟨gc, 0, none⟩ = some (.slice (some ⟨gm, 0, none⟩) n n) ∧ w3.cell? ⟨gp, i, none⟩ = some (.int .i64 0) ∧ w3.cell? ⟨gm, i, none⟩ = some (.int .i64 0) ∧ w3.frozen? ⟨gp, i, none⟩ = false ∧ w3.frozen? ⟨gm, i, none⟩ = false ∧
    (w3.setCell ⟨gp, i, none⟩ (.int .i64 (i : Int))).cell? ⟨gm, i, none⟩ = some (.int .i64 0) ∧ (w3.setCell ⟨gp, i, none⟩ (.int .i64 (i : Int))).cell? ⟨gc, 0, none⟩ = some (.slice (some ⟨gm, 0, none⟩) n n) ∧
    Rows3 w1 ((w3.setCell ⟨gp, i, none⟩ (.int .i64 (i : Int))).setCell ⟨gm, i, none⟩ (.int .i64 M)) gp gm gc (.cells (rowG (fun j => (j : Int)) n (i + 1)) 3 (0, 0)) (.cells (rowG m n (i + 1)) 2 (0, 0)) (.cells #[.slice (some ⟨gm, 0, none⟩) n n] 58 (0, 0)) := by
  obtain ⟨hgp2, hgm2, hgc2, pm, pc, mc, gep, gem, gec, bel2⟩ := H
  have hgp3 := kept hgp2 hw
  have hgm3 := kept hgm2 hw
  have hgc3 := kept hgc2 hw
  have bel3 := bel2.trans (hw.mono bel2.size)
  have cm : w3.cell? ⟨gm, i, none⟩ = some (.int .i64 0) := by
    simp only [World.cell?, hgm3, Option.bind_some, rowG_get _ _ _ i hlt, if_neg (Nat.lt_irrefl i)]
    rfl
  have cc : w3.cell? ⟨gc, 0, none⟩ = some (.slice (some ⟨gm, 0, none⟩) n n) := by
    simp only [World.cell?, hgc3, Option.bind_some]
    rfl
  have rp := block_set i (.int .i64 (i : Int)) hgp3
  rw [rowG_set (fun j => (j : Int)) n i hlt] at rp
  have rm := block_set i (.int .i64 M) ((block_far (b := gp) i (.int .i64 (i : Int)) (fun e => pm e.symm)).trans hgm3)
  rw [← hM, rowG_set m n i hlt, hM] at rm
  refine ⟨cc, ?_, cm, bc_frozenK hgp3 i, bc_frozenK hgm3 i, ?_, ?_, (block_far (b := gm) i (.int .i64 M) pm).trans rp, rm, (block_far (b := gm) i (.int .i64 M) (fun e => mc e.symm)).trans ((block_far (b := gp) i (.int .i64 (i : Int)) (fun e => pc e.symm)).trans hgc3), pm, pc, mc, gep, gem, gec, (bel3.setCell (p := ⟨gp, i, none⟩) gep (.int .i64 (i : Int))).setCell (p := ⟨gm, i, none⟩) gem (.int .i64 M)⟩
  · simp only [World.cell?, hgp3, Option.bind_some, rowG_get _ _ _ i hlt, if_neg (Nat.lt_irrefl i)]
    rfl
  · rw [cell_same (block_far i _ (fun e => pm e.symm))]
    exact cm
  · rw [cell_same (block_far i _ (fun e => pc e.symm))]
    exact cc
set_option maxRecDepth 100000 in
set_option maxHeartbeats 12800000 in
theorem tsort_any (p : Pm) (tp : p.Typed) (at_ : Int) (a0 : -9223372036854775808 ≤ at_ ∧ at_ ≤ 9223372036854775807) (l : List Sv) (tl : ∀ s ∈ l, s.Typed) (hl : l.length ≤ 60) {F : Nat → Prop} {v : Value} (w : World) (hs : SlAt F 11 svC w v l) (hF : ∀ b, F b → b < w.heap.size) :
    Calls Tryz.prog 15 #[p.val, v, .int .i64 at_] w fun e w' => ∃ u, e = .returned u ∧ SlAt (fun b => w.heap.size ≤ b ∧ b < w'.heap.size) 1 plE w' u (sortP (metN p l at_) l.length) ∧ Below w.heap.size w w' := by
  obtain ⟨i0, hi0, hz0, hz1, hz2⟩ := info_parts info_intD
  obtain ⟨j0, hj0, hy0, hy1, hy2⟩ := info_parts info_int15
  have mixed : Tryz.prog.follows .mixedOrders = true := by kernel_rfl
  obtain ⟨vx, vc, rfl⟩ := hs.slice
  obtain ⟨n, hn⟩ : ∃ n, l.length = n := ⟨_, rfl⟩
  rw [hn] at hl ⊢
  have hm1 : ∀ W, (Instr.makeSlice 47 (.int .i64 (n : Int)) (.int .i64 (n : Int))).run Tryz.prog W = .ok (.slice (some ⟨W.heap.size, 0, none⟩) n n) (W.alloc (.cells (rowG (fun j => (j : Int)) n 0) 3)) := fun W => by
    have := run_make (P := Tryz.prog) W 47 3 i0 (.int .i64 0) Tryz.underlying47 hi0 hz0 .i64 .i64 n n (by omega) (Int.le_refl _) (by rw [hz2]; omega) (by omega)
    rw [hz1, show ((n : Int)).toNat = n by omega, show (Value.int IntKind.i64 0).cells = #[.int .i64 0] from rfl, rowG_zero] at this
    exact this
  have hm2 : ∀ W, (Instr.makeSlice 58 (.int .i64 (n : Int)) (.int .i64 (n : Int))).run Tryz.prog W = .ok (.slice (some ⟨W.heap.size, 0, none⟩) n n) (W.alloc (.cells (rowG (metN p l at_) n 0) 2)) := fun W => by
    have := run_make (P := Tryz.prog) W 58 2 j0 (.int .i64 0) Tryz.underlying58 hj0 hy0 .i64 .i64 n n (by omega) (Int.le_refl _) (by rw [hy2]; omega) (by omega)
    rw [hy1, show ((n : Int)).toNat = n by omega, show (Value.int IntKind.i64 0).cells = #[.int .i64 0] from rfl, rowG_zero (metN p l at_)] at this
    exact this
  have hA : Below w.heap.size w (w.alloc (.cells (pmV p) 23)) := (Below.refl _ _).alloc (Nat.le_refl _) _
  have zp : (w.alloc (.cells (pmV p) 23)).heap[w.heap.size]? = some (.cells (pmV p) 23 (0, 0)) := heap_alloc_new w _
  unfold Pm.val pmV at *
  have HP := Lib.hid (And.intro zp hA)
  have lp1 : w.heap.size < (w.alloc (.cells #[.int .i64 p.step, .int .i64 p.watch, .int .i64 p.panic, .int .i64 p.maxrate, .int .i64 p.phi, .int .i64 p.maxdist, .int .i64 p.gate, .int .i64 p.minpoll, .int .i64 p.maxpoll, .int .i64 p.burst, .int .i64 p.minsane, .int .i64 p.minleft] 23)).heap.size := by rw [World.size_alloc]; omega
  have C : Hid (∀ s ∈ l, ∀ w, Calls Tryz.prog 12 #[.agg #[.int .i64 p.step, .int .i64 p.watch, .int .i64 p.panic, .int .i64 p.maxrate, .int .i64 p.phi, .int .i64 p.maxdist, .int .i64 p.gate, .int .i64 p.minpoll, .int .i64 p.maxpoll, .int .i64 p.burst, .int .i64 p.minsane, .int .i64 p.minleft], .agg #[.int .i64 s.leap, .int .i64 s.str, .int .u32 s.ref, .int .i64 s.del, .int .i64 s.disp, .int .i64 s.t.off, .int .i64 s.t.del, .int .i64 s.t.disp, .int .i64 s.t.jit, .int .i64 s.t.at_, .int .u8 s.reg], .int .i64 at_] w fun e w' => e = .returned (.int .i64 (metI p s at_)) ∧ Below w.heap.size w w') := Lib.hid (fun s hm w => tmet_any p tp s (tl s hm) at_ a0 w)
  have MN : Hid (∀ i s, l[i]? = some s → metN p l at_ i = metI p s at_) := fun i s h => by unfold metN; rw [h]
  have HS := Lib.hid hs
  have HF := Lib.hid hF
  clear zp hA hi0 hz0 hz1 hz2 hj0 hy0 hy1 hy2 tl hs hF tp
  go_enter Tryz.func15, Tryz.ntmps15
  go_upto_region 1 with fail
  generalize w.alloc (.cells #[.int .i64 p.step, .int .i64 p.watch, .int .i64 p.panic, .int .i64 p.maxrate, .int .i64 p.phi, .int .i64 p.maxdist, .int .i64 p.gate, .int .i64 p.minpoll, .int .i64 p.maxpoll, .int .i64 p.burst, .int .i64 p.minsane, .int .i64 p.minleft] 23) = w1 at *
  generalize hR1 : rowG (fun j => (j : Int)) n 0 = R1 at hm1
  generalize hR2 : rowG (metN p l at_) n 0 = R2 at hm2
  have HR := Lib.hid (And.intro hR1 hR2)
  clear hR1 hR2
  go_cut [7, 8] (fun a c wx => ∃ gp gm gc : Nat, a = .slice (some ⟨gp, 0, none⟩) n n ∧ c = .pointer (some ⟨gc, 0, none⟩) ∧ Rows3 w1 wx gp gm gc (.cells R1 3 (0, 0)) (.cells R2 2 (0, 0)) (.cells #[.slice (some ⟨gm, 0, none⟩) n n] 58 (0, 0)))
  case first =>
    go_region
    all_goals
      go_wp2_with fail
      go_meet
      first
      | (have h := three_box w1 R1 R2 #[.slice (some ⟨w1.heap.size + 1, 0, none⟩) n n] 3 2 58; exact ⟨_, _, _, rfl, rfl, h.1, h.2.1, h.2.2.1, by omega, by omega, by omega, by omega, by omega, by omega, h.2.2.2⟩)
      | (have h := three_box w1 R1 #[.slice (some ⟨w1.heap.size + 1 + 1, 0, none⟩) n n] R2 3 58 2; exact ⟨_, _, _, rfl, rfl, h.1, h.2.2.1, h.2.1, by omega, by omega, by omega, by omega, by omega, by omega, h.2.2.2⟩)
      | (have h := three_box w1 R2 R1 #[.slice (some ⟨w1.heap.size, 0, none⟩) n n] 2 3 58; exact ⟨_, _, _, rfl, rfl, h.2.1, h.1, h.2.2.1, by omega, by omega, by omega, by omega, by omega, by omega, h.2.2.2⟩)
      | (have h := three_box w1 R2 #[.slice (some ⟨w1.heap.size, 0, none⟩) n n] R1 2 58 3; exact ⟨_, _, _, rfl, rfl, h.2.2.1, h.1, h.2.1, by omega, by omega, by omega, by omega, by omega, by omega, h.2.2.2⟩)
      | (have h := three_box w1 #[.slice (some ⟨w1.heap.size + 1 + 1, 0, none⟩) n n] R1 R2 58 3 2; exact ⟨_, _, _, rfl, rfl, h.2.1, h.2.2.1, h.1, by omega, by omega, by omega, by omega, by omega, by omega, h.2.2.2⟩)
      | (have h := three_box w1 #[.slice (some ⟨w1.heap.size + 1, 0, none⟩) n n] R2 R1 58 2 3; exact ⟨_, _, _, rfl, rfl, h.2.2.1, h.2.1, h.1, by omega, by omega, by omega, by omega, by omega, by omega, h.2.2.2⟩)
  case rest =>
    obtain ⟨gp, gm, gc, rfl, rfl, H3⟩ := hcut
    have H4 : Hid (Rows3 w1 wc gp gm gc (.cells (rowG (fun j => (j : Int)) n 0) 3 (0, 0)) (.cells (rowG (metN p l at_) n 0) 2 (0, 0)) (.cells #[.slice (some ⟨gm, 0, none⟩) n n] 58 (0, 0))) := by
      obtain ⟨hR1, hR2⟩ := HR.out
      subst hR1 hR2
      exact H3
    clear hm1 hm2 H3 HR
    go_wp2_with fail
    go_loopg [19] n (fun g vi wr => ∃ i : Nat, vi = .int .i64 i ∧ i ≤ n ∧ n - i ≤ g ∧ Hid (Rows3 w1 wr gp gm gc (.cells (rowG (fun j => (j : Int)) n i) 3 (0, 0)) (.cells (rowG (metN p l at_) n i) 2 (0, 0)) (.cells #[.slice (some ⟨gm, 0, none⟩) n n] 58 (0, 0))))
    case atStart => exact ⟨0, rfl, Nat.zero_le _, Nat.le_refl _, H4⟩
    case round =>
      clear H4
      obtain ⟨i, rfl, hin, hgk, H4⟩ := hrel
      by_cases hlt : i < n
      · have hltz : (i : Int) < (n : Int) := by omega
        have i0' : (0 : Int) ≤ (i : Int) := by omega
        obtain ⟨s, hsn⟩ : ∃ s, l[i]? = some s := ⟨_, List.getElem?_eq_getElem (by rw [hn]; exact hlt)⟩
        have cs := C.out s (List.mem_of_getElem? hsn)
        have hms := MN.out i s hsn
        rw [← hms] at cs
        rcases HS.out with ⟨_, _, _, _, hnil⟩ | ⟨b, off, cap', hvv, hbF, hcs⟩
        · rw [hnil] at hn
          simp at hn
          omega
        · obtain ⟨rfl, rfl⟩ : vx = some ⟨b, off, none⟩ ∧ vc = cap' := by
            rw [hn] at hvv
            simpa using hvv
          have hbl := HF.out b hbF
          have hB0 := HP.out.2
          have sn := sv_at (w := wr) (b := b) (q := off + i * 11) (s := s) (fun j u hu => by
            rw [H4.out.below.cell (show b < w1.heap.size by have := hB0.size; omega), hB0.cell hbl]
            exact hcs i s hsn j u hu)
          obtain ⟨a0', a1, a2, a3, a4, a5, a6, a7, a8, a9, a10⟩ := sn
          have bs := heap_alloc_new wr (.cells (svV s) 28)
          have HQ := Lib.hid bs
          unfold svV at HQ
          clear bs hms hcs hvv hsn hB0
          go_upto_region 5 with fail
          clear a0' a1 a2 a3 a4 a5 a6 a7 a8 a9 a10
          obtain ⟨hgp, hgm, hgc, pm, pc, mc, gep, gem, gec, bel⟩ := H4.out
          have hs := HQ.out
          have hp2 := laid (.cells #[.int .i64 s.leap, .int .i64 s.str, .int .u32 s.ref, .int .i64 s.del, .int .i64 s.disp, .int .i64 s.t.off, .int .i64 s.t.del, .int .i64 s.t.disp, .int .i64 s.t.jit, .int .i64 s.t.at_, .int .u8 s.reg] 28) ((bel.block _ lp1).trans HP.out.1)
          have H5 : Hid (Rows3 w1 (wr.alloc (.cells #[.int .i64 s.leap, .int .i64 s.str, .int .u32 s.ref, .int .i64 s.del, .int .i64 s.disp, .int .i64 s.t.off, .int .i64 s.t.del, .int .i64 s.t.disp, .int .i64 s.t.jit, .int .i64 s.t.at_, .int .u8 s.reg] 28)) gp gm gc (.cells (rowG (fun j => (j : Int)) n i) 3 (0, 0)) (.cells (rowG (metN p l at_) n i) 2 (0, 0)) (.cells #[.slice (some ⟨gm, 0, none⟩) n n] 58 (0, 0))) := ⟨laid _ hgp, laid _ hgm, laid _ hgc, pm, pc, mc, gep, gem, gec, bel.alloc bel.size _⟩
          clear hgp hgm hgc HQ H4 pm pc mc gep gem gec bel
          generalize hw2 : wr.alloc (.cells #[.int .i64 s.leap, .int .i64 s.str, .int .u32 s.ref, .int .i64 s.del, .int .i64 s.disp, .int .i64 s.t.off, .int .i64 s.t.del, .int .i64 s.t.disp, .int .i64 s.t.jit, .int .i64 s.t.at_, .int .u8 s.reg] 28) = w2 at *
          clear hw2
          obtain ⟨s0, s1, s2, s3, s4, s5, s6, s7, s8, s9, s10⟩ := eleven_in hs
          obtain ⟨b0, b1, b2, b3, b4, b5, b6, b7, b8, b9, b10, b11⟩ := twelve_atK hp2
          have mc2 : w2.cell? ⟨gc, 0, none⟩ = some (.slice (some ⟨gm, 0, none⟩) n n) := by
            simp only [World.cell?, H5.out.c, Option.bind_some]
            rfl
          obtain ⟨M, hM⟩ : ∃ M, metN p l at_ i = M := ⟨_, rfl⟩
          rw [hM] at cs
          have HM := Lib.hid hM
          clear hs hp2 hM
          have H7 : Hid (Rows3 w1 w2.drew gp gm gc (.cells (rowG (fun j => (j : Int)) n i) 3 (0, 0)) (.cells (rowG (metN p l at_) n i) 2 (0, 0)) (.cells #[.slice (some ⟨gm, 0, none⟩) n n] 58 (0, 0))) := ⟨H5.out.p, H5.out.m, H5.out.c, H5.out.pm, H5.out.pc, H5.out.mc, H5.out.gep, H5.out.gem, H5.out.gec, Below.drew H5.out.below⟩
          go_region_with (go_at_call 12; refine (cs _).mono ?_; rintro e w3 ⟨rfl, hw⟩; obtain ⟨z1, z2, z3, z4, z5, z6, z7, z8⟩ := sort_round (w2 := w2.drew) H7.out hw hlt M HM.out; have H6 := Lib.hid z8; clear z8 hw)
          all_goals
            clear s0 s1 s2 s3 s4 s5 s6 s7 s8 s9 s10 b0 b1 b2 b3 b4 b5 b6 b7 b8 b9 b10 b11 mc2 cs H5 H7
            go_wp2_with fail
            go_roundg (n - (i + 1))
            case measure => omega
            case rel => exact ⟨i + 1, by go_num, by omega, by omega, H6.out⟩
      · obtain rfl : i = n := by omega
        have hltz : ¬ (i : Int) < (i : Int) := by omega
        have c := tstab_any (metN p l at_) i hl gp gm gc wr H4.out.p H4.out.m H4.out.c H4.out.pm H4.out.pc (B := w1.heap.size) H4.out.gep
        go_wp2_with fail
        (with_reducible refine c.mono ?_)
        rintro e w2 ⟨rfl, hS, hB⟩
        have H := Lib.hid (And.intro hS hB)
        clear c hS hB
        go_wp2_with fail
        go_ret
        have h1 := HP.out.2
        refine ⟨_, rfl, H.out.1.mono (fun b hb => ⟨by have := h1.size; omega, hb.2⟩), ?_⟩
        have h2 := H.out.2 w1 (Nat.le_refl _) H4.out.below
        exact h1.trans (h2.mono h1.size)
end Go.Proofs.YtkjecjehphgpjaaGreat.W
