/- The code's agenda, walked: an item is put. -/
import Derived.Test.YtcnfidfpgohpoaaAgW
import Derived.Maps.AppendAt
import Derived.Deep.AppendLies
import Derived.Deep.RegionLaw
namespace Go.Proofs.Ytcnfidfpgohpoaa.W
open Go.RowKit Go.Sort
set_option linter.unusedVariables false
set_option linter.unusedSimpArgs false
theorem info_ItC : (Try.prog.info? 39).map (fun i => (i.zero, i.size, i.bytes)) = some (some (.agg #[.int .i64 0, .int .i64 0, .string ByteArray.empty, .int .i64 0]), 4, 40) := by kernel_rfl
theorem len_sl (a : Option Addr) (n c : Nat) (ty : TypeId) (w : World) : (Builtin.len_ #[36] ty #[.slice a n c]).run Try.prog w = .ok (.int .i64 n) w := by
  simp [Builtin.len_, run_underlying Try.underlying36, goInt, Result.andThen]
theorem len_row {w : World} {base : Nat} {e : TypeId} {size n : Nat} {v : Value} {xs : List Value} (r : w.ownsRow base e size v n xs) (ty : TypeId) (w' : World) : (Builtin.len_ #[36] ty #[v]).run Try.prog w' = .ok (.int .i64 n) w' := by
  rcases Joins.ownsRow_forms r with ⟨rfl, rfl⟩ | ⟨g, cap, rfl⟩
  · exact len_sl _ _ _ _ _
  · exact len_sl _ _ _ _ _
set_option maxRecDepth 100000 in
set_option maxHeartbeats 6400000 in
theorem gpush_any {hb m : Nat} {v : Value} {h : List It} {n : Int} (at_ kind : Int) (data : List UInt8) (w : World) (x : Hv w hb v m h n) (hH : HeapF h) (hl : h.length ≤ 10000) (n0 : 0 ≤ n) (n1 : n ≤ 100000000) (hn : ∀ y ∈ h, y.ticket ≤ n) :
    Calls Try.prog 33 #[.pointer (some ⟨hb, 0, none⟩), .agg #[.int .i64 at_, .int .i64 kind, .string (bs data), .int .i64 0]] w fun e w' =>
      e = .returned (.int .i64 (n + 1)) ∧ ∃ v' h', Hv w' hb v' m h' (n + 1) ∧ (∀ g, v'.ownBlock = some g → v.ownBlock = some g ∨ w.heap.size ≤ g) ∧ h'.Perm (⟨at_, kind, data, n + 1⟩ :: h) ∧ HeapF h' ∧ Touch (fun k => k = hb ∨ Sw m v k) w w' := by
  obtain ⟨i0, hi0, hz0, hz1, hz2⟩ := info_parts info_ItC
  obtain ⟨p0, p1, p2, _, _, f2⟩ := three_cells x.blk
  obtain ⟨l1, l2, l3⟩ := x.lt
  have ne1 : hb ≠ w.heap.size := by omega
  have ne2 : w.heap.size ≠ hb := by omega
  have hlen := len_row x.row
  have X := Lib.hid x
  have hb2 : ((w.setCell ⟨hb, 2, none⟩ (.int .i64 (n + 1))).alloc (.cells #[.int .i64 at_, .int .i64 kind, .string (bs data), .int .i64 (n + 1)] 39)).heap[hb]? = some (.cells #[v, .map (some m), .int .i64 (n + 1)] 65 (0, 0)) := (Below.heap_alloc _ _ hb (by rw [set_size]; exact l1)).trans (block_set 2 _ x.blk)
  have hk2 : ∀ k, k < w.heap.size → k ≠ hb → ((w.setCell ⟨hb, 2, none⟩ (.int .i64 (n + 1))).alloc (.cells #[.int .i64 at_, .int .i64 kind, .string (bs data), .int .i64 (n + 1)] 39)).heap[k]? = w.heap[k]? := fun k k1 k2 => (Below.heap_alloc _ _ k (by rw [set_size]; exact k1)).trans (block_far _ _ k2)
  have hi2 : ((w.setCell ⟨hb, 2, none⟩ (.int .i64 (n + 1))).alloc (.cells #[.int .i64 at_, .int .i64 kind, .string (bs data), .int .i64 (n + 1)] 39)).heap[w.heap.size]? = some (.cells #[.int .i64 at_, .int .i64 kind, .string (bs data), .int .i64 (n + 1)] 39 (0, 0)) := by
    have := heap_alloc_new (w.setCell ⟨hb, 2, none⟩ (.int .i64 (n + 1))) (.cells #[.int .i64 at_, .int .i64 kind, .string (bs data), .int .i64 (n + 1)] 39)
    rw [set_size] at this
    exact this
  have ht2 : Touch (fun k => k = hb ∨ Sw m v k) w ((w.setCell ⟨hb, 2, none⟩ (.int .i64 (n + 1))).alloc (.cells #[.int .i64 at_, .int .i64 kind, .string (bs data), .int .i64 (n + 1)] 39)) := ((Touch.refl _ _).setCell (.inl (.inl rfl)) _).alloc _
  have hs2 : ((w.setCell ⟨hb, 2, none⟩ (.int .i64 (n + 1))).alloc (.cells #[.int .i64 at_, .int .i64 kind, .string (bs data), .int .i64 (n + 1)] 39)).heap.size = w.heap.size + 1 := by rw [World.size_alloc, set_size]
  clear x
  go_enter Try.func33, Try.ntmps33
  go_wp2_with fail
  generalize (w.setCell ⟨hb, 2, none⟩ (.int .i64 (n + 1))).alloc (.cells #[.int .i64 at_, .int .i64 kind, .string (bs data), .int .i64 (n + 1)] 39) = w2 at *
  obtain ⟨q0, q1, q2, r0, _, _⟩ := three_cells hb2
  obtain ⟨c0, c1, c2, c3⟩ := four_cells hi2
  clear p0 p1 p2 f2
  have hrow2 : ((w2.alloc (.cells #[.int .i64 at_, .int .i64 kind, .string (bs data), .int .i64 (n + 1)] 39)).drew).ownsRow 0 39 4 v h.length (h.flatMap itE) :=
    row_of_block X.out.row (fun g hg => (Below.heap_alloc w2 _ g (by have := l3 g hg; omega)).trans (hk2 g (l3 g hg) (X.out.own g hg).1))
  have hit := it_row w2 ⟨at_, kind, data, n + 1⟩ 39
  rw [hs2] at hit
  go_region_law (refine step_append_lies _ (by rfl) _ _ _ (by rfl) 0 39 i0 _ 4 40 Try.underlying36 hi0 hz0 hz1 hz2 rfl (by decide) v h.length _ (by simp [Act.eval, Act.put]) hrow2 ⟨w.heap.size + 1, 0, none⟩ 1 1 [.int .i64 at_, .int .i64 kind, .string (bs data), .int .i64 (n + 1)] (by simp [Act.eval, Act.put]) (by rfl) hit (itE_one ⟨at_, kind, data, n + 1⟩) (by omega) (by unfold maxLen; omega) (by omega) (Nat.zero_le _) (w.heap.size + 2) (by simp [hs2]) ?_; intro gg cp w3 hrow3 hg3 hat3 hlt3; have hb3 : w3.heap[hb]? = some (.cells #[v, .map (some m), .int .i64 (n + 1)] 65 (0, 0)) := (hg3.block hb (by simp; omega) (fun e => (X.out.own hb e.symm).1 rfl)).trans ((Below.heap_alloc w2 _ hb (by omega)).trans hb2); obtain ⟨s0, _, _, t0, _, _⟩ := three_cells hb3)
  all_goals
    have gg1 : gg ≠ hb := by
      rcases hat3 with e | e
      · exact (X.out.own gg e).1
      · omega
    have gg2 : gg ≠ m := by
      rcases hat3 with e | e
      · exact (X.out.own gg e).2
      · omega
    have gg3 : gg ≠ w.heap.size := by
      rcases hat3 with e | e
      · have := l3 gg e
        omega
      · omega
    have hz3 : w2.heap.size + 1 ≤ w3.heap.size := by
      have := hg3.size
      simpa using this
    have k3 : ∀ k, k < w2.heap.size → v.ownBlock ≠ some k → w3.heap[k]? = w2.heap[k]? := fun k k1 k2 => (hg3.block k (by simp; omega) (fun e => k2 e.symm)).trans (Below.heap_alloc w2 _ k k1)
    have hb4 := block_set 0 (.slice (some ⟨gg, 0, none⟩) (h.length + 1) cp) hb3
    have row4 : (w3.setCell ⟨hb, 0, none⟩ (.slice (some ⟨gg, 0, none⟩) (h.length + 1) cp)).ownsRow 0 39 4 (.slice (some ⟨gg, 0, none⟩) (h.length + 1) cp) (h ++ [(⟨at_, kind, data, n + 1⟩ : It)]).length ((h ++ [(⟨at_, kind, data, n + 1⟩ : It)]).flatMap itE) := by
      rw [← it_snoc h ⟨at_, kind, data, n + 1⟩, List.length_append]
      exact row_of_block hrow3 (fun g hg => by cases hg; exact block_far _ _ gg1)
    have k4 : ∀ k, k < w2.heap.size → k ≠ hb → v.ownBlock ≠ some k → (w3.setCell ⟨hb, 0, none⟩ (.slice (some ⟨gg, 0, none⟩) (h.length + 1) cp)).heap[k]? = w2.heap[k]? := fun k k1 k2 k5 => (block_far _ _ k2).trans (k3 k k1 k5)
    have ht4 : Touch (fun k => k = hb ∨ Sw m v k) w (w3.setCell ⟨hb, 0, none⟩ (.slice (some ⟨gg, 0, none⟩) (h.length + 1) cp)) := by
      refine Touch.setCell ?_ (.inl (.inl rfl)) _
      refine (ht2.alloc (.cells #[.int .i64 at_, .int .i64 kind, .string (bs data), .int .i64 (n + 1)] 39)).same ⟨hg3.os, hg3.tape, hg3.output, hg3.size, fun k hk hn => hg3.block k hk (fun e => hn (.inr (.inr e.symm)))⟩
    have hs4 : w2.heap.size + 1 ≤ (w3.setCell ⟨hb, 0, none⟩ (.slice (some ⟨gg, 0, none⟩) (h.length + 1) cp)).heap.size := by rw [set_size]; exact hz3
    clear hrow3 hg3 hb3 s0 t0 hrow2 hit hlt3 k3
    generalize w3.setCell ⟨hb, 0, none⟩ (.slice (some ⟨gg, 0, none⟩) (h.length + 1) cp) = w4 at *
    have hm : hb ≠ m := X.out.ne
    obtain ⟨D, hm1, hpl⟩ := X.out.map
    have hT1 := hm1.tidy int_key
    have hm4 : MapAt w4.drew m h.length D := map_of_block hm1 ((k4 m (by omega) (fun e => hm e.symm) (fun e => (X.out.own m e).2 rfl)).trans (hk2 m l2 (fun e => hm e.symm)))
    have hi4 := (k4 w.heap.size (by omega) ne2 (fun e => by have := l3 _ e; omega)).trans hi2
    obtain ⟨d0, d1, d2, d3⟩ := four_cells hi4
    obtain ⟨u0, u1, _, _⟩ := three_cells hb4
    obtain ⟨w5, hrun5, hm5, ht5⟩ := hm4.store int_key Try.underlying63 (by unfold maxLen; omega) (key_at (n + 1) (by omega) (by omega)) (elem_at h.length (by omega) (by omega))
    clear q0 q1 q2 r0 c0 c1 c2 c3 hb2 hi2
    go_wp2_with fail
    go_region
    have hno : hasL (n + 1) h = false := by
      unfold hasL
      rw [List.any_eq_false]
      intro y hy
      have := hn y hy
      simp
      omega
    have hp5 := pl_push hpl hT1 ⟨at_, kind, data, n + 1⟩ hno
    have hm5' := map_tight hm5
    rw [show Maps.size (D.put (tk (n + 1)) (.lit (.int .i64 h.length))) = (h ++ [(⟨at_, kind, data, n + 1⟩ : It)]).length from hp5.size] at hm5'
    have hg5 : w4.drew.grownBy w5 (some m) := ht5.grown
    have b5 : ∀ k, k ≠ m → k < w4.heap.size → w5.heap[k]? = w4.heap[k]? := fun k hne hk => hg5.block k hk (fun e => hne (Option.some.inj e))
    have hlg := (row4.lt gg rfl).2
    have hV5 : Hv w5 hb (.slice (some ⟨gg, 0, none⟩) (h.length + 1) cp) m (h ++ [(⟨at_, kind, data, n + 1⟩ : It)]) (n + 1) := by
      refine ⟨(b5 hb hm (by omega)).trans hb4, row_of_block row4 (fun g hg => by cases hg; exact b5 gg gg2 hlg), ⟨_, hm5', hp5⟩, hm, fun g hg => by cases hg; exact ⟨gg1, gg2⟩, by simp; omega, fun y hy => ?_, ?_⟩
      · rcases List.mem_append.1 hy with hy | hy
        · exact X.out.tks y hy
        · rw [List.mem_singleton.1 hy]
          simp only []
          omega
      · refine List.pairwise_append.2 ⟨X.out.uniq, List.pairwise_singleton _ _, fun y hy z hz => ?_⟩
        rw [List.mem_singleton.1 hz]
        have := hn y hy
        simp only []
        omega
    have hi5 := (b5 w.heap.size (by omega) (by omega)).trans hi4
    have ht5' : Touch (fun k => k = hb ∨ Sw m v k) w w5 := ht4.same ⟨hg5.os, hg5.tape, hg5.output, hg5.size, fun k hk hn => b5 k (fun e => hn (.inr (.inl e))) hk⟩
    have hz5 := hg5.size
    have cr := grise_any (p := h.length) w5 hV5 (by simp) (hole_of_up (up_push hH _))
    have E5 := Lib.hid (And.intro hi5 (And.intro ht5' hV5))
    clear hrun5 hm5 hm5' ht5 hg5 b5 hV5 hi5 ht5' hi4 hb4 row4 ht4 k4 hm4 hp5 d0 d1 d2 d3 u0 u1
    go_wp2_with fail
    (with_reducible refine cr.mono ?_)
    rintro e w6 ⟨rfl, h6, hV6, hp6, hD6, hT6⟩
    have hi6 := (hT6.block w.heap.size (by have : w4.heap.size ≤ w5.heap.size := hz5; omega) (fun e => e.elim (fun e => by omega) (fun e => by have e' : gg = w.heap.size := Option.some.inj e; exact gg3 e'))).trans E5.out.1
    obtain ⟨d0, d1, d2, d3⟩ := four_cells hi6
    have hl6 : h6.length = h.length + 1 := by rw [hp6.length_eq]; simp
    have hH6 : HeapF h6 := dn_done hD6 fun j y z hj hpar hy hz => by
      have := (List.getElem?_eq_some_iff.1 hy).1
      omega
    have E6 := Lib.hid (And.intro hV6 (And.intro hp6 (And.intro hH6 hT6)))
    clear hV6 hp6 hH6 hT6 hi6 cr hD6
    go_wp2_with fail
    go_ret
    refine ⟨rfl, _, h6, E6.out.1, fun g hg => ?_, E6.out.2.1.trans ((List.perm_append_singleton _ _)), E6.out.2.2.1, ?_⟩
    · have e' : gg = g := Option.some.inj hg
      subst e'
      rcases hat3 with e | e
      · exact .inl e
      · exact .inr (by omega)
    · refine E5.out.2.1.trans E6.out.2.2.2 fun k hk => ?_
      rcases hk with hk | hk
      · exact .inl (.inr (.inl hk))
      · have e' : gg = k := Option.some.inj hk
        subst e'
        rcases hat3 with e | e
        · exact .inl (.inr (.inr e))
        · exact .inr (by omega)
end Go.Proofs.Ytcnfidfpgohpoaa.W
