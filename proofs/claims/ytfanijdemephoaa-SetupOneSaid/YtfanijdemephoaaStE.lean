/- The document's own answers of layer 10, walked: all faults. -/
import Derived.Test.YtfanijdemephoaaStD
import Derived.Test.YtfanijdemephoaaRowS
import Derived.Laws.AppendOwn
namespace Go.Proofs.Ytfanijdemephoaa.W
open Go.RowKit Go.Sort
set_option linter.unusedVariables false
set_option linter.unusedSimpArgs false
/-- The faults among the first n fields. -/
def upTo (c : Cf) (n : Nat) : List Int := ((List.range' 1 n).filter fun k => decide (fieldE c k ≠ 0)).map fun k : Nat => (k : Int)
theorem upTo_next (c : Cf) (n : Nat) : upTo c (n + 1) = if fieldE c (n + 1) = 0 then upTo c n else upTo c n ++ [((n : Int) + 1)] := by
  unfold upTo
  rw [List.range'_concat, List.filter_append, List.map_append]
  by_cases h : fieldE c (n + 1) = 0
  · rw [if_pos h]
    simp [h, Nat.add_comm 1 n]
  · rw [if_neg h]
    simp [h, Nat.add_comm 1 n]
theorem upTo_length (c : Cf) (n : Nat) : (upTo c n).length ≤ n := by
  unfold upTo
  rw [List.length_map]
  exact Nat.le_trans (List.length_filter_le _ _) (by simp)
theorem own_kept {w w' : World} {B e size n : Nat} {v : Value} {xs : List Value} (h : w.ownsRow B e size v n xs) (hb : Below w.heap.size w w') : w'.ownsRow B e size v n xs := by
  refine ⟨h.1, ?_⟩
  rcases h.2 with h | ⟨g, cap, cur, hv, hbg, hg, r⟩
  · exact .inl h
  · exact .inr ⟨g, cap, cur, hv, hbg, (hb.block g (Array.getElem?_eq_some_iff.1 hg).1).trans hg, r⟩
theorem new_row1 (w : World) (x : Value) (t : TypeId) : ∀ j u, ([x] : List Value)[j]? = some u → (w.alloc (.cells #[x] t)).cell? ((⟨w.heap.size, 0, none⟩ : Addr).add j) = some u := by
  intro j u hu
  rw [Addr.add_lit, Nat.zero_add]
  match j, hu with
  | 0, hu => simp at hu; subst hu; simp [go_sem]
theorem one_len (k : IntKind) (x : Int) : (oneE k x).length = 1 := rfl
theorem info_int : (Try.prog.info? 3).map (fun i => (i.zero, i.size, i.bytes)) = some (some (.int .i64 0), 1, 8) := by kernel_rfl
set_option maxRecDepth 100000 in
set_option maxHeartbeats 6400000 in
theorem rfaults_any (c : Cf) (t : c.Typed) (w : World) : Calls Try.prog 13 #[c.val] w fun e w' => ∃ v, e = .returned v ∧ SlAt (fun b => w.heap.size ≤ b ∧ b < w'.heap.size) 1 (oneE .i64) w' v (upTo c 12) ∧ Below w.heap.size w w' := by
  obtain ⟨i0, hi0, hz0, hz1, hz2⟩ := info_parts info_int
  have hA : Below w.heap.size w (w.alloc (.cells #[.float .f64 c.step, .float .f64 c.watch, .float .f64 c.panic, .float .f64 c.maxrate, .float .f64 c.phi, .float .f64 c.maxdist, .float .f64 c.gate, .int .i64 c.minpoll, .int .i64 c.maxpoll, .int .i64 c.burst, .int .i64 c.minsane, .int .i64 c.minleft] 33)) := Below.alloc (Below.refl _ _) (Nat.le_refl _) _
  have hx := heap_alloc_new w (.cells #[.float .f64 c.step, .float .f64 c.watch, .float .f64 c.panic, .float .f64 c.maxrate, .float .f64 c.phi, .float .f64 c.maxdist, .float .f64 c.gate, .int .i64 c.minpoll, .int .i64 c.maxpoll, .int .i64 c.burst, .int .i64 c.minsane, .int .i64 c.minleft] 33)
  have sA := World.size_alloc w (.cells #[.float .f64 c.step, .float .f64 c.watch, .float .f64 c.panic, .float .f64 c.maxrate, .float .f64 c.phi, .float .f64 c.maxdist, .float .f64 c.gate, .int .i64 c.minpoll, .int .i64 c.maxpoll, .int .i64 c.burst, .int .i64 c.minsane, .int .i64 c.minleft] 33)
  have T := Lib.hid t
  have hy := fun (k : Nat) (k0 : 1 ≤ k) (k1 : k ≤ 12) => rfield_any c t k k0 k1
  unfold Cf.val at *
  clear t
  have own0 := ownsRow_fresh (w.alloc (.cells #[.float .f64 c.step, .float .f64 c.watch, .float .f64 c.panic, .float .f64 c.maxrate, .float .f64 c.phi, .float .f64 c.maxdist, .float .f64 c.gate, .int .i64 c.minpoll, .int .i64 c.maxpoll, .int .i64 c.burst, .int .i64 c.minsane, .int .i64 c.minleft] 33)) 3 1 (w.heap.size + 1) (by omega)
  have hA2 := hA.alloc (by omega) (.cells #[] 3)
  have hx2 := (Below.heap_alloc (w.alloc (.cells #[.float .f64 c.step, .float .f64 c.watch, .float .f64 c.panic, .float .f64 c.maxrate, .float .f64 c.phi, .float .f64 c.maxdist, .float .f64 c.gate, .int .i64 c.minpoll, .int .i64 c.maxpoll, .int .i64 c.burst, .int .i64 c.minsane, .int .i64 c.minleft] 33)) (.cells #[] 3) w.heap.size (by omega)).trans hx
  go_enter Try.func13, Try.ntmps13
  go_wp2_with fail
  go_loopw [3, 4] (fun v i wr => ∃ n : Nat, n ≤ 12 ∧ i = .int .i64 ((n : Int) + 1) ∧ wr.ownsRow (w.heap.size + 1) 3 1 v (upTo c n).length ((upTo c n).flatMap (oneE .i64)) ∧ Below w.heap.size w wr ∧ w.heap.size + 1 ≤ wr.heap.size ∧ wr.heap[w.heap.size]? = some (.cells #[.float .f64 c.step, .float .f64 c.watch, .float .f64 c.panic, .float .f64 c.maxrate, .float .f64 c.phi, .float .f64 c.maxdist, .float .f64 c.gate, .int .i64 c.minpoll, .int .i64 c.maxpoll, .int .i64 c.burst, .int .i64 c.minsane, .int .i64 c.minleft] 33 (0, 0))) (fun _ i _ => 13 - (intOf i).toNat)
  case atStart => exact ⟨0, by omega, rfl, by rw [sA] at own0; exact own0, hA2, by rw [World.size_alloc]; omega, hx2⟩
  case round =>
    obtain ⟨n, hn, rfl, own, hB, hs1, hbx⟩ := hrel
    obtain ⟨a0, a1, a2, a3, a4, a5, a6, a7, a8, a9, a10, a11⟩ := twelve_at hbx
    by_cases hlt : n < 12
    · have i1 : (n : Int) + 1 ≤ 12 := by omega
      have y := hy (n + 1) (by omega) (by omega) wr
      rw [show ((n + 1 : Nat) : Int) = (n : Int) + 1 by omega] at y
      have hnx := upTo_next c n
      have hln := upTo_length c n
      by_cases he : fieldE c (n + 1) = 0
      · rw [if_pos he] at hnx
        rw [he] at y
        have HN := Lib.hid hnx
        clear hnx he
        go_wp2_with fail
        (with_reducible refine y.mono ?_)
        rintro e w1 ⟨rfl, hB1⟩
        have hb1 := hB.trans (hB1.mono hB.size)
        have hbx1 := (hB1.block _ (by omega)).trans hbx
        have own1 := own_kept own hB1
        go_wp2_with fail
        go_roundw
        case rel => exact ⟨n + 1, by omega, by go_num, by rw [HN.out]; exact own1, hb1, by have := hB1.size; omega, hbx1⟩
        case measure => simp [intOf]; omega
      · rw [if_neg he] at hnx
        have HN := Lib.hid hnx
        clear hnx
        generalize fieldE c (n + 1) = ev at *
        have heb : (ev != 0) = true := bne_iff_ne.2 he
        go_wp2_with fail
        (with_reducible refine y.mono ?_)
        rintro e w1 ⟨rfl, hB1⟩
        have hb1 := hB.trans (hB1.mono hB.size)
        have hbx1 := (hB1.block _ (by omega)).trans hbx
        have own1 := own_kept own hB1
        have z1 := hB1.size
        clear own hbx y
        go_wp2_with (at_builtin; refine wpList_append_own _ rfl _ _ 36 rfl (w.heap.size + 1) 3 i0 _ 1 8 Try.underlying36 hi0 hz0 hz1 hz2 rfl (by decide) _ _ _ rfl (own1.alloc _) ⟨w1.heap.size, 0, none⟩ 1 1 [.int .i64 ((n : Int) + 1)] rfl rfl (new_row1 _ _ _) (by simp [Value.oneCell']) (by unfold maxLen; omega) (by omega) (by rw [World.size_alloc]; omega) ?_; intro v' w2 hown2 hgrow _)
        have hB2 : Below w.heap.size w w2 := (hb1.alloc (by omega) _).grown hgrow (by rw [World.size_alloc]; omega) (fun g hg => by have := (own1.lt g hg).1; omega)
        have hbx2 : w2.heap[w.heap.size]? = some (.cells #[.float .f64 c.step, .float .f64 c.watch, .float .f64 c.panic, .float .f64 c.maxrate, .float .f64 c.phi, .float .f64 c.maxdist, .float .f64 c.gate, .int .i64 c.minpoll, .int .i64 c.maxpoll, .int .i64 c.burst, .int .i64 c.minsane, .int .i64 c.minleft] 33 (0, 0)) := (hgrow.block _ (by rw [World.size_alloc]; omega) (fun e => by have := (own1.lt _ e.symm).1; omega)).trans ((Below.heap_alloc _ _ _ (by omega)).trans hbx1)
        have z2 := hgrow.size
        rw [World.size_alloc] at z2
        have own2 : w2.ownsRow (w.heap.size + 1) 3 1 v' (upTo c n ++ [((n : Int) + 1)]).length ((upTo c n ++ [((n : Int) + 1)]).flatMap (oneE .i64)) := by
          rw [List.length_append, List.flatMap_append]
          exact hown2
        clear hgrow hown2 own1 hbx1
        go_wp2_with fail
        go_roundw
        case rel => exact ⟨n + 1, by omega, by go_num, by rw [HN.out]; exact own2, hB2, by omega, hbx2⟩
        case measure => simp [intOf]; omega
    · obtain rfl : n = 12 := by omega
      have i1 : ¬ (((12 : Nat) : Int) + 1) ≤ 12 := by omega
      go_wp2_with fail
      go_ret
      exact ⟨_, rfl, (SlAt.own (one_len .i64) own).mono (fun k hk => ⟨by omega, hk.2⟩), hB⟩
end Go.Proofs.Ytfanijdemephoaa.W
