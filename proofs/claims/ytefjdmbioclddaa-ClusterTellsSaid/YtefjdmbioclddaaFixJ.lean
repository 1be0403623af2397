/- The document's own root of mean squares, walked: its list of squares grows by appends. -/
import Derived.Test.YtefjdmbioclddaaFixI
import Derived.Deep.RegionHeld3
import Derived.Deep.AppendLies
import Derived.OwnWalk
import Derived.Laws.Pointers
namespace Go.Proofs.Ytefjdmbioclddaa.W
open Go.RowKit
set_option linter.unusedVariables false
set_option linter.unusedSimpArgs false
theorem infoInts : (Try.prog.info? 2).map (fun i => (i.zero, i.size, i.bytes)) = some (some (.int .i64 0), 1, 8) := by kernel_rfl
theorem ownsRow_empty (w : World) (e : TypeId) (size : Nat) : (w.alloc (.cells #[] e)).ownsRow w.heap.size e size (.slice (some ⟨w.heap.size, 0, none⟩) 0 0) 0 [] :=
  ⟨by simp, .inr ⟨w.heap.size, 0, #[], rfl, Nat.le_refl _, heap_alloc_new' _ _ rfl, Nat.le_refl _, by unfold maxLen; omega, by simp, by simp⟩⟩
theorem own_apart {w : World} {base b : Nat} {e : TypeId} {size n : Nat} {v : Value} {xs : List Value} (h : w.ownsRow base e size v n xs) (hb : b < base) : v.ownBlock ≠ some b := by
  rcases h.2 with ⟨rfl, _⟩ | ⟨g, c, cur, rfl, hg, _⟩
  · simp [Value.ownBlock]
  · simp only [Value.ownBlock, ne_eq, Option.some.injEq]; omega
theorem own_ge {w : World} {base : Nat} {e : TypeId} {size n : Nat} {v : Value} {xs : List Value} (h : w.ownsRow base e size v n xs) (k : Nat) (hk : v.ownBlock = some k) : base ≤ k := by
  rcases h.2 with ⟨rfl, _⟩ | ⟨g, c, cur, rfl, hg, _⟩
  · simp [Value.ownBlock] at hk
  · simp only [Value.ownBlock, Option.some.injEq] at hk; omega
theorem Ints.own {w : World} {base e : Nat} {v : Value} {n : Nat} {z : List Int} (h : w.ownsRow base e 1 v n (z.map (Value.int .i64))) (hn : n = z.length) :
    ∃ A c, v = .slice A z.length c ∧ Ints w A z := by
  subst hn
  rcases h.2 with ⟨rfl, h0⟩ | ⟨g, c, cur, rfl, hg, hh, h1, h2, h3, h4⟩
  · exact ⟨none, 0, by rw [h0], .inl (List.eq_nil_of_length_eq_zero h0)⟩
  · refine ⟨_, c, rfl, .inr ⟨g, 0, rfl, lt_of_block hh, fun k hk => ?_⟩⟩
    have : cur.toList[k]? = some (.int .i64 (z.getD k 0)) := by
      have e1 : (cur.toList.take (z.length * 1))[k]? = cur.toList[k]? := List.getElem?_take_of_lt (by omega)
      rw [← e1, h4, List.getElem?_map, List.getElem?_eq_getElem hk, List.getD_eq_getElem?_getD, List.getElem?_eq_getElem hk]; rfl
    simp only [World.cell?, hh, Nat.zero_add]
    simpa using this
theorem map_next (z : List Int) (k : Nat) (hk : k < z.length) : (z.take k).map (Value.int .i64) ++ [Value.int .i64 (z.getD k 0)] = (z.take (k + 1)).map (Value.int .i64) := by
  rw [List.take_succ_eq_append_getElem hk, List.map_append, List.getD_eq_getElem?_getD, List.getElem?_eq_getElem hk]; rfl
set_option maxHeartbeats 1600000 in
theorem rroot_any (z : List Int) (A : Option Addr) (cap : Nat) (hz : InR z) (hl : z.length ≤ 1024) (w : World) (hr : Ints w A z) :
    Calls Try.prog 32 #[.slice A z.length cap] w fun e w' => e = .returned (.int .i64 (rmsI z)) ∧ Below w.heap.size w w' := by
  obtain ⟨i0, hi0, hz0, hz1, hz2⟩ := info_parts infoInts
  have hq := sqs_length z
  have HQ := Lib.hid hq
  have HR := Lib.hid hr
  clear hq hr
  go_enter Try.func32, Try.ntmps32
  go_wp2_with fail
  go_loopw [3, 4] (fun v i wr => ∃ k : Nat, k ≤ z.length ∧ i = .int .i64 k ∧ wr.ownsRow w.heap.size 2 1 v k (((sqs z).take k).map (Value.int .i64)) ∧ Below w.heap.size w wr) (fun _ i _ => z.length - (intOf i).toNat)
  case atStart =>
    exact ⟨0, Nat.zero_le _, rfl, ownsRow_empty _ _ _, (Below.refl _ _).alloc (Nat.le_refl _) _⟩
  case round =>
    obtain ⟨k, hk, rfl, own, hB⟩ := hrel
    by_cases hk2 : k < z.length
    · rcases HR.out with hn | ⟨b, off, rfl, hlt, hc⟩
      · subst hn; simp at hk2
      · obtain ⟨x0, x1⟩ := hz.at_ k hk2
        have c0 : wr.cell? ⟨b, off + k, none⟩ = some (.int .i64 (z.getD k 0)) := by
          rw [hB.cell (by show b < w.heap.size; omega)]; exact hc k hk2
        have hm := rfmul_any (z.getD k 0) (z.getD k 0) x0 x1 x0 x1
        have hap := own_apart own hlt
        have hnext := map_next (sqs z) k (by rw [HQ.out]; exact hk2)
        rw [sqs_at z k hk2] at hnext
        have HN := Lib.hid hnext
        have hsz := hB.size
        have hbl : b < wr.heap.size := by omega
        clear hc hnext
        generalize mulI (z.getD k 0) (z.getD k 0) = y at *
        generalize z.getD k 0 = x at *
        go_wp2_with fail
        go_region_held3 (fun w' => w'.cell? ⟨b, off + k, none⟩ = some (.int .i64 x))
          (first
            | go_keep
            | (go_split_ands
               (rw [hgrow.cell_far _ (by simp; omega) (Ne.symm hap)]; assumption)))
          (first
            | (go_at_call 47; refine (hm _).mono ?_; rintro e w' ⟨rfl, rfl⟩)
            | (refine step_append_lies _ (by rfl) _ _ _ (by rfl) w.heap.size 2 i0 _ 1 8 Try.underlying64 hi0 hz0 hz1 hz2 rfl (by omega) _ k (((sqs z).take k).map (Value.int .i64)) (by rfl) ((own.alloc _).drew)
                ⟨wr.heap.size, 0, none⟩ 1 1 [.int .i64 y] (by rfl) (by rfl) (World.news_of_block (cs := #[.int .i64 y]) (t := 2) (fr := (0, 0)) (heap_alloc_new wr _)) (by simp [Value.oneCell']) (by omega) (by unfold maxLen; omega) (by omega) (by simp; omega) (wr.heap.size + 1) (by simp) ?_; intro gg cp w1 hown1 hgrow hat hglt))
        rw [HN.out] at hown1
        have hB1 : Below w.heap.size w w1 := ((hB.alloc hsz _).drew).grown hgrow (by simp; omega) (fun g hg => own_ge own g hg)
        clear hgrow hat hap own
        go_wp2_with fail
        go_roundw
        case rel => exact ⟨k + 1, by omega, by go_num, hown1, hB1⟩
        case measure => simp [intOf]; omega
    · obtain rfl : k = z.length := by omega
      rw [show ((sqs z).take z.length) = sqs z by rw [← HQ.out, List.take_length]] at own
      obtain ⟨A2, c2, rfl, hi⟩ := Ints.own own HQ.out.symm
      have hmean := rmean_any (sqs z) A2 c2 (sqs_in z) (by rw [HQ.out]; exact hl) wr hi
      have mr := meanI_range (sqs z)
      have hs := rfsqrt_any (meanI (sqs z)) (by omega) (by omega)
      rw [show rootI (meanI (sqs z)) = rmsI z from rfl] at hs
      clear mr
      generalize meanI (sqs z) = mz at *
      go_wp2_with fail
      (with_reducible refine hmean.mono ?_)
      rintro e w1 ⟨rfl, rfl⟩
      go_wp2_with fail
      (with_reducible refine (hs _).mono ?_)
      rintro e w2 ⟨rfl, rfl⟩
      go_wp2_with fail
      go_ret
      exact ⟨rfl, hB⟩
end Go.Proofs.Ytefjdmbioclddaa.W
