/- The document's own answers of layer 17, walked: spread. -/
import Derived.Test.YtefjdmbioclddaaCnZ
import Derived.Test.YtefjdmbioclddaaFixB
import Derived.Test.YtefjdmbioclddaaFixJ
import Derived.Deep.RegionHeld3
import Derived.Laws.Pointers
namespace Go.Proofs.Ytefjdmbioclddaa.W
open Go.RowKit Go.Sort
set_option linter.unusedVariables false
set_option linter.unusedSimpArgs false
/-- A node of a slice, in its cells. -/
theorem nd_of {l : List Nd} {F : Nat → Prop} {w : World} {b off cap n : Nat} (hs : SlAt F 3 ndC w (.slice (some ⟨b, off, none⟩) n cap) l) {i : Nat} {c : Nd} (hx : l[i]? = some c) : (w.cell? ⟨b, off + i * 3, none⟩ = some (.int .i64 c.off) ∧ w.cell? ⟨b, off + i * 3 + 1, none⟩ = some (.int .i64 c.jit) ∧ w.cell? ⟨b, off + i * 3 + 2, none⟩ = some (.int .i64 c.met)) ∧ F b := by
  rcases hs with ⟨_, _, _, _, hnil⟩ | ⟨b', off', cap', hv, hF, hc⟩
  · rw [hnil] at hx
    cases hx
  · obtain ⟨e1, _, _⟩ := Value.slice.inj hv
    obtain ⟨rfl, rfl⟩ : b = b' ∧ off = off' := by simpa using e1
    exact ⟨nd_at (hc i c hx), hF⟩
theorem nd_some {l : List Nd} {F : Nat → Prop} {w : World} {a : Option Addr} {n cap : Nat} (hs : SlAt F 3 ndC w (.slice a n cap) l) {i : Nat} {c : Nd} (hx : l[i]? = some c) : ∃ b off, a = some ⟨b, off, none⟩ := by
  rcases hs with ⟨_, _, _, _, hnil⟩ | ⟨b', off', cap', hv, hF, hc⟩
  · rw [hnil] at hx
    cases hx
  · exact ⟨b', off', (Value.slice.inj hv).1⟩
set_option maxRecDepth 100000 in
set_option maxHeartbeats 6400000 in
theorem rspread17_any (l : List Nd) (tl : ∀ c ∈ l, c.Typed) (hl : l.length ≤ 100000) {F : Nat → Prop} {v : Value} (w : World) (hs : SlAt F 3 ndC w v l) (hF : ∀ b, F b → b < w.heap.size) :
    Calls Try.prog 18 #[v] w fun e w' => e = .returned (.int .i64 (spreadI l)) ∧ Below w.heap.size w w' := by
  have HS := Lib.hid hs
  obtain ⟨vx, vc, rfl⟩ := hs.slice
  clear hs
  rcases Nat.eq_zero_or_pos l.length with he | he
  · have hlz : ((l.length : Int) == 0) = true := beq_iff_eq.2 (by omega)
    have hv : spreadI l = 0 := by unfold spreadI; rw [if_pos (List.eq_nil_of_length_eq_zero he)]
    rw [hv]
    clear he hv
    go_enter Try.func18, Try.ntmps18
    go_wp2_with fail
    go_ret
    exact ⟨rfl, Below.refl _ _⟩
  have hlz : ((l.length : Int) == 0) = false := beq_eq_false_iff_ne.2 (by omega)
  have hne : l ≠ [] := List.length_pos_iff.1 he
  obtain ⟨c0, hc0⟩ : ∃ c, l[0]? = some c := ⟨_, List.getElem?_eq_getElem he⟩
  have h0 : offN l 0 = c0.off := by unfold offN; simp [List.getD, hc0]
  obtain ⟨b, off, rfl⟩ := nd_some HS.out hc0
  obtain ⟨⟨x0, _, _⟩, fb⟩ := nd_of HS.out hc0
  rw [Nat.zero_mul, Nat.add_zero] at x0
  have lb := hF b fb
  have hv : spreadI l = subI (highN l) (lowN l) := by unfold spreadI; rw [if_neg hne]
  have hrg : ∀ n, -9223372036854775808 ≤ ((l.take n).map Nd.off).foldl min c0.off ∧ ((l.take n).map Nd.off).foldl min c0.off ≤ 9223372036854775807 ∧ -9223372036854775808 ≤ ((l.take n).map Nd.off).foldl max c0.off ∧ ((l.take n).map Nd.off).foldl max c0.off ≤ 9223372036854775807 := fun n => by
    have t0 := (tl c0 (List.mem_of_getElem? hc0)).off
    have tt : ∀ x ∈ (l.take n).map Nd.off, -9223372036854775808 ≤ x ∧ x ≤ 9223372036854775807 := fun x hx => by
      obtain ⟨c, hc, rfl⟩ := List.mem_map.1 hx
      exact (tl c (List.mem_of_mem_take hc)).off
    constructor
    · rcases fmin_in ((l.take n).map Nd.off) c0.off with e | e
      · rw [e]; exact t0.1
      · exact (tt _ e).1
    · refine ⟨?_, ?_, ?_⟩
      · have := (fmin_le ((l.take n).map Nd.off) c0.off).1
        omega
      · have := (fmax_le ((l.take n).map Nd.off) c0.off).1
        omega
      · rcases fmax_in ((l.take n).map Nd.off) c0.off with e | e
        · rw [e]; exact t0.2
        · exact (tt _ e).2
  have RG := Lib.hid hrg
  have hR := Below.refl w.heap.size w
  have HV := Lib.hid (And.intro hv h0)
  have i0 : (0 : Int) < (l.length : Int) := by omega
  clear hrg hv h0 hne tl
  go_enter Try.func18, Try.ntmps18
  go_wp2_with fail
  go_loopw [3, 4, 5] (fun lo hi i wr => ∃ n : Nat, n ≤ l.length ∧ i = .int .i64 (n : Int) ∧ lo = .int .i64 (((l.take n).map Nd.off).foldl min c0.off) ∧ hi = .int .i64 (((l.take n).map Nd.off).foldl max c0.off) ∧ Below w.heap.size w wr) (fun _ _ i _ => l.length - (intOf i).toNat)
  case atStart => exact ⟨0, Nat.zero_le _, rfl, rfl, rfl, hR⟩
  case round =>
    obtain ⟨n, hn, rfl, rfl, rfl, hB⟩ := hrel
    clear hR
    by_cases hlt : n < l.length
    · obtain ⟨c, hc⟩ : ∃ c, l[n]? = some c := ⟨_, List.getElem?_eq_getElem hlt⟩
      have i1 : (n : Int) < l.length := by omega
      have i0' : (0 : Int) ≤ (n : Int) := by omega
      obtain ⟨⟨y0, _, _⟩, _⟩ := nd_of HS.out hc
      have x0' : wr.cell? ⟨b, off + n * 3, none⟩ = some (.int .i64 c.off) := by rw [hB.cell lb]; exact y0
      have htk : l.take (n + 1) = l.take n ++ [c] := by
        obtain ⟨h1, rfl⟩ := List.getElem?_eq_some_iff.1 hc
        exact List.take_succ_eq_append_getElem h1
      have m1 : ((l.take (n + 1)).map Nd.off).foldl min c0.off = min (((l.take n).map Nd.off).foldl min c0.off) c.off := by rw [htk]; simp
      have m2 : ((l.take (n + 1)).map Nd.off).foldl max c0.off = max (((l.take n).map Nd.off).foldl max c0.off) c.off := by rw [htk]; simp
      generalize ((l.take n).map Nd.off).foldl min c0.off = a at *
      generalize ((l.take n).map Nd.off).foldl max c0.off = d at *
      have f1 := fun ts t W => run_min17 a c.off _ m1.symm ts t W
      have f2 := fun ts t W => run_max17 d c.off _ m2.symm ts t W
      generalize hA : ((l.take (n + 1)).map Nd.off).foldl min c0.off = A at *
      generalize hD : ((l.take (n + 1)).map Nd.off).foldl max c0.off = D at *
      have HAD := Lib.hid (And.intro hA hD)
      have BB := Lib.hid hB
      clear m1 m2 htk hc y0 hB hA hD
      go_wp2_with fail
      go_roundw
      case rel => exact ⟨n + 1, by omega, by go_num, by rw [HAD.out.1], by rw [HAD.out.2], BB.out⟩
      case measure => simp [intOf]; omega
    · have enl : n = l.length := by omega
      subst enl
      have r := RG.out l.length
      rw [List.take_length] at r ⊢
      have k := rsub_any (((l.map Nd.off).foldl max c0.off)) (((l.map Nd.off).foldl min c0.off)) r.2.2.1 r.2.2.2 r.1 r.2.1
      have e : spreadI l = subI ((l.map Nd.off).foldl max c0.off) ((l.map Nd.off).foldl min c0.off) := by
        rw [HV.out.1]
        unfold highN lowN
        rw [HV.out.2]
      rw [← e] at k
      have BB := Lib.hid hB
      clear hB e r
      go_wp2_with fail
      (with_reducible refine (k _).mono ?_)
      rintro e w2 ⟨rfl, rfl⟩
      go_wp2_with fail
      go_ret
      exact ⟨rfl, BB.out⟩
/-- The differences to the first n of the others. -/
def difU (l : List Nd) (i n : Nat) : List Int := ((List.range n).filter fun k => decide (k ≠ i)).map fun k => subI (offN l i) (offN l k)
theorem difU_step (l : List Nd) (i n : Nat) : difU l i (n + 1) = if n = i then difU l i n else difU l i n ++ [subI (offN l i) (offN l n)] := by
  unfold difU
  rw [List.range_succ, List.filter_append, List.map_append]
  by_cases h : n = i
  · rw [if_pos h]
    simp [h]
  · rw [if_neg h]
    simp [h]
theorem difU_length (l : List Nd) (i n : Nat) : (difU l i n).length ≤ n := by
  unfold difU
  rw [List.length_map]
  exact Nat.le_trans (List.length_filter_le _ _) (by rw [List.length_range]; exact Nat.le_refl _)
theorem off_is {l : List Nd} {i : Nat} {c : Nd} (h : l[i]? = some c) : offN l i = c.off := by unfold offN; simp [List.getD, h]
theorem info_i64 : (Try.prog.info? 2).map (fun i => (i.zero, i.size, i.bytes)) = some (some (.int .i64 0), 1, 8) := by kernel_rfl
set_option maxRecDepth 100000 in
set_option maxHeartbeats 6400000 in
theorem rapart17_any (l : List Nd) (tl : ∀ c ∈ l, c.Typed) (hl : l.length ≤ 100) (i : Int) (ib : -9223372036854775808 ≤ i ∧ i ≤ 9223372036854775807) {F : Nat → Prop} {v : Value} (w : World) (hs : SlAt F 3 ndC w v l) (hF : ∀ b, F b → b < w.heap.size) :
    Calls Try.prog 15 #[v, .int .i64 i] w fun e w' => e = .returned (.int .i64 (apartI l i)) ∧ Below w.heap.size w w' := by
  have HS := Lib.hid hs
  obtain ⟨vx, vc, rfl⟩ := hs.slice
  clear hs
  by_cases hi0 : i < 0
  · have hv : apartI l i = 0 := by unfold apartI; rw [if_pos (.inl hi0)]
    rw [hv]
    clear hv
    go_enter Try.func15, Try.ntmps15
    go_wp2_with fail
    go_ret
    exact ⟨rfl, Below.refl _ _⟩
  by_cases hil : (l.length : Int) ≤ i
  · have hv : apartI l i = 0 := by unfold apartI; rw [if_pos (.inr hil)]
    rw [hv]
    clear hv
    go_enter Try.func15, Try.ntmps15
    go_wp2_with fail
    go_ret
    exact ⟨rfl, Below.refl _ _⟩
  obtain ⟨k, rfl⟩ : ∃ k : Nat, i = (k : Int) := ⟨i.toNat, by omega⟩
  have hv : apartI l (k : Int) = rmsI (difU l k l.length) := by unfold apartI; rw [if_neg (by omega)]; rfl
  rw [hv]
  obtain ⟨i0, hi, hz0, hz1, hz2⟩ := info_parts info_i64
  obtain ⟨ck, hck⟩ : ∃ c, l[k]? = some c := ⟨_, List.getElem?_eq_getElem (by omega)⟩
  obtain ⟨b, off, rfl⟩ := nd_some HS.out hck
  obtain ⟨⟨x0, _, _⟩, fb⟩ := nd_of HS.out hck
  have lb := hF b fb
  have k0 : (0 : Int) ≤ (k : Int) := by omega
  have k1 : (k : Int) < (l.length : Int) := by omega
  have kd : decide ((l.length : Int) ≤ (k : Int)) = false := decide_eq_false hil
  have kd' : decide (l.length ≤ k) = false := decide_eq_false (by omega)
  have hir : InR (difU l k l.length) := fun x hx => by
    obtain ⟨a, _, rfl⟩ := List.mem_map.1 hx
    have := cutI_range (offN l k - offN l a)
    unfold subI
    omega
  have HIR := Lib.hid hir
  have TL := Lib.hid tl
  have ownS := ownsRow_fresh w 2 1 w.heap.size (Nat.le_refl _)
  have bS := (Below.refl w.heap.size w).alloc (Nat.le_refl _) (.cells #[] 2)
  have okk := off_is hck
  have tk := (tl ck (List.mem_of_getElem? hck)).off
  clear hv hi0 hil hir tl ib
  go_enter Try.func15, Try.ntmps15
  go_wp2_with fail
  go_loopw [5, 6] (fun d j wr => ∃ n : Nat, n ≤ l.length ∧ j = .int .i64 (n : Int) ∧ wr.ownsRow w.heap.size 2 1 d (difU l k n).length ((difU l k n).map (Value.int .i64)) ∧ Below w.heap.size w wr) (fun _ j _ => l.length - (intOf j).toNat)
  case atStart => exact ⟨0, Nat.zero_le _, rfl, ownS, bS⟩
  case round =>
    obtain ⟨n, hn, rfl, own, hB⟩ := hrel
    clear ownS bS
    have z1 := hB.size
    have hdl := difU_length l k n
    by_cases hlt : n < l.length
    · have hst := difU_step l k n
      have i1 : (n : Int) < l.length := by omega
      have n0 : (0 : Int) ≤ (n : Int) := by omega
      by_cases hnk : n = k
      · have e1 : ((n : Int) != (k : Int)) = false := by subst hnk; simp
        rw [if_pos hnk] at hst
        have OO := Lib.hid (And.intro hst (And.intro own hB))
        clear hst own hB hnk hck
        go_wp2_with fail
        go_roundw
        case rel => exact ⟨n + 1, by omega, by go_num, by rw [OO.out.1]; exact OO.out.2.1, OO.out.2.2⟩
        case measure => simp [intOf]; omega
      · obtain ⟨c, hc⟩ : ∃ c, l[n]? = some c := ⟨_, List.getElem?_eq_getElem hlt⟩
        obtain ⟨⟨y0, _, _⟩, _⟩ := nd_of HS.out hc
        have tc := (TL.out c (List.mem_of_getElem? hc)).off
        have hm := rsub_any ck.off c.off tk.1 tk.2 tc.1 tc.2
        have e1 : ((n : Int) != (k : Int)) = true := bne_iff_ne.2 (by omega)
        rw [if_neg hnk, okk, off_is hc] at hst
        have d1 : wr.cell? ⟨b, off + k * 3, none⟩ = some (.int .i64 ck.off) := by rw [hB.cell lb]; exact x0
        have d2 : wr.cell? ⟨b, off + n * 3, none⟩ = some (.int .i64 c.off) := by rw [hB.cell lb]; exact y0
        have hap := own_apart own lb
        have hbl : b < wr.heap.size := Nat.lt_of_lt_of_le lb z1
        generalize subI ck.off c.off = y at *
        have ka1 : ((wr.alloc (.cells #[.int .i64 y] 2)).drew).cell? ⟨b, off + k * 3, none⟩ = some (.int .i64 ck.off) := (((Below.refl wr.heap.size wr).alloc (Nat.le_refl _) (.cells #[.int .i64 y] 2)).drew.cell hbl).trans d1
        have ka2 : ((wr.alloc (.cells #[.int .i64 y] 2)).drew).cell? ⟨b, off + n * 3, none⟩ = some (.int .i64 c.off) := (((Below.refl wr.heap.size wr).alloc (Nat.le_refl _) (.cells #[.int .i64 y] 2)).drew.cell hbl).trans d2
        have HST := Lib.hid hst
        generalize difU l k n = D at *
        clear hst hc y0 hnk hck okk
        go_wp2_with fail
        go_region_held3 (fun w' => w'.cell? ⟨b, off + k * 3, none⟩ = some (.int .i64 ck.off) ∧ w'.cell? ⟨b, off + n * 3, none⟩ = some (.int .i64 c.off))
          (first
            | go_keep
            | (exact ⟨(hgrow.cell_far _ (by simp; omega) (Ne.symm hap)).trans ka1, (hgrow.cell_far _ (by simp; omega) (Ne.symm hap)).trans ka2⟩))
          (first
            | (go_at_call 31; (with_reducible refine (hm _).mono ?_); rintro e w' ⟨rfl, rfl⟩)
            | (refine step_append_lies _ (by rfl) _ _ _ (by rfl) w.heap.size 2 i0 _ 1 8 Try.underlying64 hi hz0 hz1 hz2 rfl (by decide) _ D.length (D.map (Value.int .i64)) (by rfl) ((own.alloc _).drew)
                ⟨wr.heap.size, 0, none⟩ 1 1 [.int .i64 y] (by rfl) (by rfl) (World.news_of_block (cs := #[.int .i64 y]) (t := 2) (fr := (0, 0)) (heap_alloc_new wr _)) (by simp [Value.oneCell']) (by omega) (by unfold maxLen; omega) (by omega) (by simp; omega) (wr.heap.size + 1) (by simp) ?_; intro gg cp w4 hown4 hgrow hat hglt))
        have own4 : w4.ownsRow w.heap.size 2 1 (.slice (some ⟨gg, 0, none⟩) (D.length + 1) cp) (difU l k (n + 1)).length ((difU l k (n + 1)).map (Value.int .i64)) := by
          rw [HST.out, List.map_append, List.length_append]
          exact hown4
        have B4 : Below w.heap.size w w4 := ((hB.alloc z1 (.cells #[.int .i64 y] 2)).drew).grown hgrow (by simp; omega) (fun g hg => (own.lt g hg).1)
        have OO := Lib.hid (And.intro own4 B4)
        clear hgrow hat hap own hown4 own4 B4 d1 d2 ka1 ka2
        go_wp2_with fail
        go_roundw
        case rel => exact ⟨n + 1, by omega, by go_num, OO.out.1, OO.out.2⟩
        case measure => simp [intOf]; omega
    · have enl : n = l.length := by omega
      subst enl
      generalize wr = wo at *
      obtain ⟨A, cap, rfl, hin⟩ := Ints.own own rfl
      have kr := rroot_any (difU l k l.length) A cap HIR.out (by omega) wo hin
      have BB := Lib.hid hB
      clear hB own hin hdl hck okk
      go_wp2_with fail
      (with_reducible refine kr.mono ?_)
      rintro e w5 ⟨rfl, hb⟩
      have B5 := Lib.hid (BB.out.trans (hb.mono BB.out.size))
      clear hb kr
      go_wp2_with fail
      go_ret
      exact ⟨rfl, B5.out⟩
set_option maxRecDepth 100000 in
set_option maxHeartbeats 6400000 in
theorem rworst17_any (l : List Nd) (tl : ∀ c ∈ l, c.Typed) (hl : l.length ≤ 100) {F : Nat → Prop} {v : Value} (w : World) (hs : SlAt F 3 ndC w v l) (hF : ∀ b, F b → b < w.heap.size) :
    Calls Try.prog 11 #[v] w fun e w' => e = .returned (.tuple #[.int .i64 ((worstP l).1 : Int), .int .i64 (worstP l).2]) ∧ Below w.heap.size w w' := by
  have HS := Lib.hid hs
  obtain ⟨vx, vc, rfl⟩ := hs.slice
  clear hs
  have KA := Lib.hid (fun (n : Nat) (hn : n < l.length) W (hB : Below w.heap.size w W) => rapart17_any l tl hl (n : Int) (by omega) W (HS.out.kept (fun b hb => hB.block b (hF b hb))) (fun b hb => Nat.lt_of_lt_of_le (hF b hb) hB.size))
  have hR := Below.refl w.heap.size w
  clear tl
  go_enter Try.func11, Try.ntmps11
  go_wp2_with fail
  go_loopw [4, 5, 6] (fun be fa i wr => ∃ n : Nat, n ≤ l.length ∧ i = .int .i64 (n : Int) ∧ be = .int .i64 ((wstP l n).1 : Int) ∧ fa = .int .i64 (wstP l n).2 ∧ Below w.heap.size w wr) (fun _ _ i _ => l.length - (intOf i).toNat)
  case atStart => exact ⟨0, Nat.zero_le _, rfl, rfl, rfl, hR⟩
  case round =>
    obtain ⟨n, hn, rfl, rfl, rfl, hB⟩ := hrel
    clear hR
    by_cases hlt : n < l.length
    · obtain ⟨c, hc⟩ : ∃ c, l[n]? = some c := ⟨_, List.getElem?_eq_getElem hlt⟩
      have i1 : (n : Int) < l.length := by omega
      have i0' : (0 : Int) ≤ (n : Int) := by omega
      obtain ⟨b, off, rfl⟩ := nd_some HS.out hc
      obtain ⟨⟨_, _, y2⟩, fb⟩ := nd_of HS.out hc
      have lb := hF b fb
      have ka := KA.out n hlt wr hB
      have hap : apartI l (n : Int) = aptN l n := by unfold apartI; rw [if_neg (by omega)]; rfl
      rw [hap] at ka
      have hnx : wstP l (n + 1) = if n = 0 ∨ (wstP l n).2 < aptN l n ∨ aptN l n = (wstP l n).2 ∧ metNd l (wstP l n).1 ≤ metNd l n then (n, aptN l n) else wstP l n := by rw [wstP]
      have hmn : metNd l n = c.met := by unfold metNd; simp [List.getD, hc]
      have hw := fun h => wst_lt l n h
      go_wp2_with fail
      (with_reducible refine ka.mono ?_)
      rintro e w3 ⟨rfl, hb3⟩
      have B3 := hB.trans (hb3.mono hB.size)
      have HB3 := Lib.hid B3
      have z2 : w3.cell? ⟨b, off + n * 3 + 2, none⟩ = some (.int .i64 c.met) := by rw [B3.cell lb]; exact y2
      clear ka hap hB hb3
      generalize aptN l n = a at *
      rcases Nat.eq_zero_or_pos n with hz | hpos
      · have e0 : ((n : Int) == 0) = true := beq_iff_eq.2 (by omega)
        rw [if_pos (.inl hz)] at hnx
        clear hw
        have HW := Lib.hid hnx
        clear hnx hz
        go_wp2_with fail
        go_quiet (fail)
        have hbn := Lib.hid (below_drewN HB3.out nq)
        go_wp2_with fail
        go_roundw
        case rel => exact ⟨n + 1, by omega, by go_num, by rw [HW.out], by rw [HW.out], hbn.out⟩
        case measure => simp [intOf]; omega
      · have e0 : ((n : Int) == 0) = false := beq_eq_false_iff_ne.2 (by omega)
        have hlt1 := (hw hpos).1
        obtain ⟨c', hc'⟩ : ∃ c, l[(wstP l n).1]? = some c := ⟨_, List.getElem?_eq_getElem (by omega)⟩
        have hmb : metNd l (wstP l n).1 = c'.met := by unfold metNd; simp [List.getD, hc']
        obtain ⟨⟨_, _, x2⟩, _⟩ := nd_of HS.out hc'
        have v2 : w3.cell? ⟨b, off + (wstP l n).1 * 3 + 2, none⟩ = some (.int .i64 c'.met) := by rw [B3.cell lb]; exact x2
        rw [hmb, hmn] at hnx
        generalize hWW : wstP l n = WW at *
        obtain ⟨B, Fv⟩ := WW
        dsimp only at *
        have B0 : (0 : Int) ≤ (B : Int) := by omega
        have B1 : (B : Int) < (l.length : Int) := by omega
        have hz : ¬ n = 0 := by omega
        clear hmb hmn hc hc' y2 x2 hWW B3
        by_cases g1 : Fv < a
        · have d1 : decide (Fv < a) = true := decide_eq_true g1
          rw [if_pos (.inr (.inl g1))] at hnx
          clear hw
          have HW := Lib.hid hnx
          clear hnx g1
          go_wp2_with fail
          go_quiet (fail)
          have hbn := Lib.hid (below_drewN HB3.out nq)
          go_wp2_with fail
          go_roundw
          case rel => exact ⟨n + 1, by omega, by go_num, by rw [HW.out], by rw [HW.out], hbn.out⟩
          case measure => simp [intOf]; omega
        · have d1 : decide (Fv < a) = false := decide_eq_false g1
          by_cases g2 : a = Fv
          · have d2 : (a == Fv) = true := beq_iff_eq.2 g2
            by_cases g3 : c'.met ≤ c.met
            · have d3 : decide (c'.met ≤ c.met) = true := decide_eq_true g3
              rw [if_pos (.inr (.inr ⟨g2, g3⟩))] at hnx
              clear hw
              have HW := Lib.hid hnx
              clear hnx g1 g2 g3
              go_wp2_with fail
              go_quiet (fail)
              have hbn := Lib.hid (below_drewN HB3.out nq)
              go_wp2_with fail
              go_roundw
              case rel => exact ⟨n + 1, by omega, by go_num, by rw [HW.out], by rw [HW.out], hbn.out⟩
              case measure => simp [intOf]; omega
            · have d3 : decide (c'.met ≤ c.met) = false := decide_eq_false g3
              rw [if_neg (by rintro (h | h | h); exact hz h; exact g1 h; exact g3 h.2)] at hnx
              clear hw
              have HW := Lib.hid hnx
              clear hnx g1 g2 g3
              go_wp2_with fail
              go_quiet (fail)
              have hbn := Lib.hid (below_drewN HB3.out nq)
              go_wp2_with fail
              go_roundw
              case rel => exact ⟨n + 1, by omega, by go_num, by rw [HW.out], by rw [HW.out], hbn.out⟩
              case measure => simp [intOf]; omega
          · have d2 : (a == Fv) = false := beq_eq_false_iff_ne.2 g2
            rw [if_neg (by rintro (h | h | h); exact hz h; exact g1 h; exact g2 h.1)] at hnx
            clear hw
            have HW := Lib.hid hnx
            clear hnx g1 g2
            go_wp2_with fail
            go_quiet (fail)
            have hbn := Lib.hid (below_drewN HB3.out nq)
            go_wp2_with fail
            go_roundw
            case rel => exact ⟨n + 1, by omega, by go_num, by rw [HW.out], by rw [HW.out], hbn.out⟩
            case measure => simp [intOf]; omega
    · have enl : n = l.length := by omega
      subst enl
      have BB := Lib.hid hB
      clear hB
      go_wp2_with fail
      go_ret2
      exact ⟨rfl, BB.out⟩
end Go.Proofs.Ytefjdmbioclddaa.W
