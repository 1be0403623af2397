/- The document's own answers of layer 17, walked: who is kept. (Written by wip/genCnP.py.) -/
import Derived.Test.YtefjdmbioclddaaCnR
import Derived.Test.YtefjdmbioclddaaCnZ
import Derived.Test.YtefjdmbioclddaaPlA
import Derived.OwnWalk
import Derived.Deep.Onto
import Derived.Deep.AppendLies
import Derived.Laws.AppendOwn
import Derived.Laws.OwnMore
import Derived.Maps.AppendAt
namespace Go.Proofs.Ytefjdmbioclddaa.W
open Go.RowKit Go.Sort
set_option linter.unusedVariables false
set_option linter.unusedSimpArgs false
theorem info_int17 : (Try.prog.info? 3).map (fun i => (i.zero, i.size, i.bytes)) = some (some (.int .i64 0), 1, 8) := by kernel_rfl
def slLen : Value → Nat
  | .slice _ n _ => n
  | _ => 0
/-- The first n of those that are kept, without one. -/
def goneU (K : List Nat) (a n : Nat) : List Nat := (K.take n).eraseIdx a
theorem goneU_zero (K : List Nat) (a : Nat) : goneU K a 0 = [] := by simp [goneU]
theorem goneU_all (K : List Nat) (a : Nat) : goneU K a K.length = goneL K a := by simp [goneU, goneL]
theorem goneU_step {K : List Nat} {a n x : Nat} (h : K[n]? = some x) : goneU K a (n + 1) = if n = a then goneU K a n else goneU K a n ++ [x] := by
  obtain ⟨hn, rfl⟩ := List.getElem?_eq_some_iff.1 h
  have hl : (K.take n).length = n := by rw [List.length_take]; omega
  unfold goneU
  rw [List.take_succ_eq_append_getElem hn]
  split
  · rename_i e
    subst e
    have e1 : (K.take n).eraseIdx n = K.take n := List.eraseIdx_of_length_le (by omega)
    rw [List.eraseIdx_append_of_length_le (by omega), e1, hl, Nat.sub_self]
    simp
  · rename_i e
    rcases Nat.lt_or_gt_of_ne e with g | g
    · rw [List.eraseIdx_of_length_le (by rw [List.length_append, hl]; simp; omega), List.eraseIdx_of_length_le (by omega)]
    · rw [List.eraseIdx_append_of_lt_length (by omega)]
theorem goneU_length (K : List Nat) (a n : Nat) : (goneU K a n).length ≤ n := by
  unfold goneU
  refine Nat.le_trans ((List.eraseIdx_sublist _ _).length_le) ?_
  rw [List.length_take]
  omega
theorem now_step {l : List Nd} {K : List Nat} {n x : Nat} {c : Nd} (h : K[n]? = some x) (hc : l[x]? = some c) : nowL l (K.take (n + 1)) = nowL l (K.take n) ++ [c] := by
  obtain ⟨h1, rfl⟩ := List.getElem?_eq_some_iff.1 h
  rw [List.take_succ_eq_append_getElem h1]
  unfold nowL
  rw [List.map_append]
  simp [List.getD, hc]
theorem now_mem17 {l : List Nd} {K : List Nat} (h : ∀ x ∈ K, x < l.length) {c : Nd} (hc : c ∈ nowL l K) : c ∈ l := by
  obtain ⟨x, hx, rfl⟩ := List.mem_map.1 hc
  have := h x hx
  simp [List.getD, List.getElem?_eq_getElem this]
theorem prn_stop {l : List Nd} {least : Int} {K : List Nat} (h : (K.length : Int) ≤ max least 1) (f : Nat) : prnP l least f K = (K, (worstP (nowL l K)).2) := by
  cases f with
  | zero => rfl
  | succ f => unfold prnP; rw [if_pos h]
theorem prn_quiet {l : List Nd} {least : Int} {K : List Nat} (g : (worstP (nowL l K)).2 < quietI (nowL l K)) (f : Nat) : prnP l least f K = (K, (worstP (nowL l K)).2) := by
  cases f with
  | zero => rfl
  | succ f => unfold prnP; split <;> first | rfl | (rw [if_pos g])
theorem prn_next {l : List Nd} {least : Int} {K : List Nat} (h : ¬ (K.length : Int) ≤ max least 1) (g : ¬ (worstP (nowL l K)).2 < quietI (nowL l K)) (f : Nat) : prnP l least (f + 1) K = prnP l least f (goneL K (worstP (nowL l K)).1) := by
  rw [prnP, if_neg h, if_neg g]
theorem fmin_step {l : List Nd} {n : Nat} {c : Nd} {a : Int} (hc : l[n]? = some c) : ((l.take (n + 1)).map Nd.jit).foldl min a = min (((l.take n).map Nd.jit).foldl min a) c.jit := by
  obtain ⟨h1, rfl⟩ := List.getElem?_eq_some_iff.1 hc
  rw [List.take_succ_eq_append_getElem h1]
  simp only [List.map_append, List.foldl_append, List.map_cons, List.map_nil, List.foldl_cons, List.foldl_nil]
set_option maxRecDepth 100000 in
set_option maxHeartbeats 6400000 in
theorem theirs17_any (l : List Nd) (hl : l.length ≤ 100000) {F : Nat → Prop} {v : Value} (w : World) (hs : SlAt F 3 ndC w v l) (hF : ∀ b, F b → b < w.heap.size) :
    Calls Try.prog 9 #[v] w fun e w' => ∃ u, e = .returned u ∧ SlAt (fun b => w.heap.size ≤ b ∧ b < w'.heap.size) 3 ndC w' u l ∧ Below w.heap.size w w' := by
  obtain ⟨i0, hi0, hz0, hz1, hz2⟩ := info_parts info_rnd
  have HS := Lib.hid hs
  obtain ⟨vx, vc, rfl⟩ := hs.slice
  have ownS := ownsRow_fresh w 50 3 w.heap.size (Nat.le_refl _)
  have bS := (Below.refl w.heap.size w).alloc (Nat.le_refl _) (.cells #[] 50)
  clear hs
  go_enter Try.func9, Try.ntmps9
  go_wp2_with fail
  go_loopw [3, 4] (fun o i wr => ∃ n : Nat, n ≤ l.length ∧ i = .int .i64 (n : Int) ∧ wr.ownsRow w.heap.size 50 3 o (l.take n).length ((l.take n).flatMap ndC) ∧ Below w.heap.size w wr) (fun _ i _ => l.length - (intOf i).toNat)
  case atStart => exact ⟨0, Nat.zero_le _, rfl, by rw [List.take_zero]; exact ownS, bS⟩
  case round =>
    obtain ⟨n, hn, rfl, own, hB⟩ := hrel
    clear ownS bS
    have z1 := hB.size
    have htl : (l.take n).length = n := by rw [List.length_take]; omega
    by_cases hlt : n < l.length
    · obtain ⟨s, hsn⟩ : ∃ s, l[n]? = some s := ⟨_, List.getElem?_eq_getElem hlt⟩
      have i1 : (n : Int) < l.length := by omega
      have i0' : (0 : Int) ≤ (n : Int) := by omega
      obtain ⟨b, off, rfl⟩ := nd_some HS.out hsn
      obtain ⟨⟨c0, c1, c2⟩, fb⟩ := nd_of HS.out hsn
      have lb := hF b fb
      have x0 : wr.cell? ⟨b, off + n * 3, none⟩ = some (.int .i64 s.off) := by rw [hB.cell lb]; exact c0
      have x1 : wr.cell? ⟨b, off + n * 3 + 1, none⟩ = some (.int .i64 s.jit) := by rw [hB.cell lb]; exact c1
      have x2 : wr.cell? ⟨b, off + n * 3 + 2, none⟩ = some (.int .i64 s.met) := by rw [hB.cell lb]; exact c2
      have htk : l.take (n + 1) = l.take n ++ [s] := by
        obtain ⟨h1, rfl⟩ := List.getElem?_eq_some_iff.1 hsn
        exact List.take_succ_eq_append_getElem h1
      have TK := Lib.hid htk
      clear htk c0 c1 c2 fb hsn
      rw [htl] at own
      go_wp2_with (at_builtin; refine wpList_append_own _ rfl _ _ 24 rfl w.heap.size 50 i0 _ 3 24 Try.underlying24 hi0 hz0 hz1 hz2 rfl (by decide) _ _ _ rfl (own.alloc _) ⟨wr.heap.size, 0, none⟩ 1 1 (ndC s) rfl rfl (nd_row _ s _) (ndC_one _) (by unfold maxLen; omega) (by omega) (by first | (rw [World.size_alloc]; omega) | (simp; omega)) ?_; intro v4 w4 hown4 hgrow4 _; have own4 : w4.ownsRow w.heap.size 50 3 v4 (l.take (n + 1)).length ((l.take (n + 1)).flatMap ndC) := (by rw [TK.out, List.flatMap_append, List.length_append, htl]; simpa using hown4); have B4 := (hB.alloc (by omega) (.cells (ndA s) 50)).grown hgrow4 (by first | (rw [World.size_alloc]; omega) | (simp; omega)) (fun g hg => by have := (own.lt g hg).1; omega))
      go_roundw
      case rel => exact ⟨n + 1, by omega, by go_num, own4, B4⟩
      case measure => simp [intOf]; omega
    · have enl : n = l.length := by omega
      subst enl
      rw [List.take_length] at own
      have SM := Lib.hid (SlAt.own ndC_length own)
      have BB := Lib.hid hB
      clear own hB
      go_wp2_with fail
      go_ret
      exact ⟨_, rfl, SM.out, BB.out⟩
set_option maxRecDepth 100000 in
set_option maxHeartbeats 12800000 in
theorem rprune17_any (l : List Nd) (tl : ∀ c ∈ l, c.Typed) (hl : l.length ≤ 100) (least : Int) (i0 : -9223372036854775808 ≤ least ∧ least ≤ 9223372036854775807) {F : Nat → Prop} {v : Value} (w : World) (hs : SlAt F 3 ndC w v l) (hF : ∀ b, F b → b < w.heap.size) :
    Calls Try.prog 13 #[v, .int .i64 least] w fun e w' => ∃ u, e = .returned (.tuple #[u, .int .i64 (prune l least).2]) ∧ SlAt (fun b => w.heap.size ≤ b ∧ b < w'.heap.size) 1 plE w' u (prune l least).1 ∧ Below w.heap.size w w' := by
  clear i0
  obtain ⟨j0, hj0, hy0, hy1, hy2⟩ := info_parts info_int17
  obtain ⟨i0, hi0, hz0, hz1, hz2⟩ := info_parts info_rnd
  have HS := Lib.hid hs
  have TL := Lib.hid tl
  have HF := Lib.hid hF
  obtain ⟨vx, vc, rfl⟩ := hs.slice
  have ownS := ownsRow_fresh w 3 1 w.heap.size (Nat.le_refl _)
  have bS := (Below.refl w.heap.size w).alloc (Nat.le_refl _) (.cells #[] 3)
  obtain ⟨mx, hmx⟩ : ∃ mx, max least 1 = mx := ⟨_, rfl⟩
  have hmax := Lib.hid (fun ts t W => run_max17 least 1 mx hmx ts t W)
  have HM := Lib.hid hmx
  clear hs tl hF hmx
  go_enter Try.func13, Try.ntmps13
  go_wp2_with fail
  go_loopw [6, 7] (fun o i wr => ∃ n : Nat, n ≤ l.length ∧ i = .int .i64 (n : Int) ∧ wr.ownsRow w.heap.size 3 1 o n ((List.range n).flatMap plE) ∧ Below w.heap.size w wr) (fun _ i _ => l.length - (intOf i).toNat)
  case atStart => exact ⟨0, Nat.zero_le _, rfl, ownS, bS⟩
  case round =>
    obtain ⟨n, hn, rfl, own, hB⟩ := hrel
    clear ownS bS
    have z1 := hB.size
    by_cases hlt : n < l.length
    · have i1 : (n : Int) < l.length := by omega
      have i0' : (0 : Int) ≤ (n : Int) := by omega
      have hrl : (List.range n).length = n := List.length_range
      go_wp2_with (at_builtin; refine wpList_append_own _ rfl _ _ 29 rfl w.heap.size 3 j0 _ 1 8 Try.underlying29 hj0 hy0 hy1 hy2 rfl (by decide) _ _ _ rfl (own.alloc _) ⟨wr.heap.size, 0, none⟩ 1 1 [.int .i64 (n : Int)] rfl rfl (new_row15 _ _ _) (by simp [Value.oneCell']) (by (try simp only [List.length_append, List.length_cons, List.length_nil]); unfold maxLen; omega) (by (try simp only [List.length_append, List.length_cons, List.length_nil]); omega) (by first | (rw [World.size_alloc]; omega) | (simp; omega)) ?_; intro v4 w4 hown4 hgrow4 _; have own4 : w4.ownsRow w.heap.size 3 1 v4 (n + 1) (((List.range n) ++ [n]).flatMap plE) := (by rw [plE_snoc]; exact hown4); have B4 := (hB.alloc (by omega) (.cells #[.int .i64 (n : Int)] 3)).grown hgrow4 (by first | (rw [World.size_alloc]; omega) | (simp; omega)) (fun g hg => by have := (own.lt g hg).1; omega))
      go_roundw
      case rel => exact ⟨n + 1, by omega, by go_num, by rw [List.range_succ]; exact own4, B4⟩
      case measure => simp [intOf]; omega
    · have enl : n = l.length := by omega
      subst enl
      generalize wr = wa at *
      have KS := Lib.hid (And.intro own hB)
      clear own hB hlt hn
      go_wp2_with fail
      go_loopw [6] (fun o wr => ∃ K : List Nat, K.length ≤ l.length ∧ (∀ x ∈ K, x < l.length) ∧ prnP l least K.length K = prune l least ∧ wr.ownsRow w.heap.size 3 1 o K.length (K.flatMap plE) ∧ Below w.heap.size w wr) (fun o _ => slLen o)
      case atStart => exact ⟨List.range l.length, by simp, fun x hx => List.mem_range.1 hx, by rw [List.length_range]; rfl, by rw [List.length_range]; exact KS.out.1, KS.out.2⟩
      case round =>
        obtain ⟨K, hKl, hKm, hpr, own, hB⟩ := hrel
        generalize wr = wo at *
        clear KS
        have zo := hB.size
        have HK := Lib.hid (SlAt.own plE_length own)
        obtain ⟨xo, co, rfl⟩ := HK.out.slice
        have KM := Lib.hid hKm
        have PR := Lib.hid hpr
        have OW := Lib.hid (And.intro own hB)
        have ownC := ownsRow_fresh wo 50 3 wo.heap.size (Nat.le_refl _)
        have bC := (Below.refl wo.heap.size wo).alloc (Nat.le_refl _) (.cells #[] 50)
        clear own hB hKm hpr
        go_wp2_with fail
        go_loopw [8, 9] (fun nw i wr => ∃ n : Nat, n ≤ K.length ∧ i = .int .i64 (n : Int) ∧ wr.ownsRow wo.heap.size 50 3 nw (nowL l (K.take n)).length ((nowL l (K.take n)).flatMap ndC) ∧ Below wo.heap.size wo wr) (fun _ i _ => K.length - (intOf i).toNat)
        case atStart => exact ⟨0, Nat.zero_le _, rfl, ownC, bC⟩
        case round =>
          obtain ⟨n, hn, rfl, ownN, hBi⟩ := hrel
          clear ownC bC
          have zi := hBi.size
          have hnl : (nowL l (K.take n)).length = n := by rw [now_length, List.length_take]; omega
          have OL := Lib.hid ownN
          rw [hnl] at ownN
          by_cases hlt : n < K.length
          · obtain ⟨x, hx⟩ : ∃ x, K[n]? = some x := ⟨_, List.getElem?_eq_getElem hlt⟩
            have hxl := KM.out x (List.mem_of_getElem? hx)
            obtain ⟨c, hc⟩ : ∃ c, l[x]? = some c := ⟨_, List.getElem?_eq_getElem hxl⟩
            obtain ⟨bk, ok, rfl⟩ := pl_some HK.out hx
            obtain ⟨kx, fk⟩ := pl_cell HK.out hx
            obtain ⟨bl, ol, rfl⟩ := nd_some HS.out hc
            obtain ⟨⟨c0, c1, c2⟩, fl⟩ := nd_of HS.out hc
            have lb := HF.out bl fl
            have kx' : wr.cell? ⟨bk, ok + n, none⟩ = some (.int .i64 (x : Int)) := by rw [hBi.cell fk.2]; exact kx
            have d0 : wr.cell? ⟨bl, ol + x * 3, none⟩ = some (.int .i64 c.off) := by rw [hBi.cell (Nat.lt_of_lt_of_le lb zo), OW.out.2.cell lb]; exact c0
            have d1 : wr.cell? ⟨bl, ol + x * 3 + 1, none⟩ = some (.int .i64 c.jit) := by rw [hBi.cell (Nat.lt_of_lt_of_le lb zo), OW.out.2.cell lb]; exact c1
            have d2 : wr.cell? ⟨bl, ol + x * 3 + 2, none⟩ = some (.int .i64 c.met) := by rw [hBi.cell (Nat.lt_of_lt_of_le lb zo), OW.out.2.cell lb]; exact c2
            have ST := Lib.hid (now_step hx hc)
            have i1 : (n : Int) < K.length := by omega
            have i0' : (0 : Int) ≤ (n : Int) := by omega
            have x1 : (x : Int) < l.length := by omega
            have x0' : (0 : Int) ≤ (x : Int) := by omega
            clear c0 c1 c2 kx hx hc fk fl OL
            go_wp2_with (at_builtin; refine wpList_append_own _ rfl _ _ 24 rfl wo.heap.size 50 i0 _ 3 24 Try.underlying24 hi0 hz0 hz1 hz2 rfl (by decide) _ _ _ rfl (ownN.alloc _) ⟨wr.heap.size, 0, none⟩ 1 1 (ndC c) rfl rfl (nd_row _ c _) (ndC_one _) (by unfold maxLen; omega) (by omega) (by first | (rw [World.size_alloc]; omega) | (simp; omega)) ?_; intro v4 w4 hown4 hgrow4 _; have own4 : w4.ownsRow wo.heap.size 50 3 v4 (nowL l (K.take (n + 1))).length ((nowL l (K.take (n + 1))).flatMap ndC) := (by rw [ST.out, List.flatMap_append, List.length_append, hnl]; simpa using hown4); have B4 := (hBi.alloc (by omega) (.cells (ndA c) 50)).grown hgrow4 (by first | (rw [World.size_alloc]; omega) | (simp; omega)) (fun g hg => by have := (ownN.lt g hg).1; omega))
            go_roundw
            case rel => exact ⟨n + 1, by omega, by go_num, own4, B4⟩
            case measure => simp [intOf]; omega
          · have enl : n = K.length := by omega
            subst enl
            generalize wr = wn at *
            have HN := Lib.hid (SlAt.own ndC_length OL.out)
            rw [List.take_length] at HN hnl
            have BN := Lib.hid hBi
            obtain ⟨xn, cn, rfl⟩ := HN.out.slice
            have kw := rworst17_any (nowL l K) (fun c hc => TL.out c (now_mem KM.out c hc)) (by rw [hnl]; omega) wn HN.out (fun b hb => hb.2)
            have HW := Lib.hid (And.intro (prn_stop (l := l) (least := least) (K := K)) (And.intro (prn_quiet (l := l) (least := least) (K := K)) (And.intro (prn_next (l := l) (least := least) (K := K)) (fun (h : 0 < (nowL l K).length) => worst_at h))))
            have hmn := hmax.out
            rw [hnl] at HN kw
            clear ownN OL hBi hlt hn
            generalize (worstP (nowL l K)).1 = at_ at *
            generalize (worstP (nowL l K)).2 = far at *
            go_wp2_with fail
            (with_reducible refine kw.mono ?_)
            rintro e w2 ⟨rfl, hb⟩
            have HN2 := Lib.hid (HN.out.kept (fun b h => hb.block b h.2))
            have B2 := Lib.hid (OW.out.2.trans ((BN.out.trans (hb.mono zi)).mono zo))
            have z2 : wo.heap.size ≤ w2.heap.size := Nat.le_trans zi hb.size
            have BW := Lib.hid (BN.out.trans (hb.mono zi))
            have zn := hb.size
            clear kw hb HN
            by_cases g : (K.length : Int) ≤ mx
            · have gd : decide ((K.length : Int) ≤ mx) = true := decide_eq_true g
              have hv := HW.out.1 (by rw [HM.out]; exact g) K.length
              rw [PR.out] at hv
              have HV := Lib.hid hv
              clear hv g
              go_wp2_with fail
              go_ret2
              exact ⟨.slice xo K.length co, by rw [HV.out]; rfl, by rw [HV.out]; exact (HK.out.kept (fun b h => BW.out.block b h.2)).mono (fun b h => ⟨h.1, by omega⟩), B2.out⟩
            · have gd : decide ((K.length : Int) ≤ mx) = false := decide_eq_false g
              have hpos : 0 < K.length := by have := HM.out; omega
              obtain ⟨c0, hc0⟩ : ∃ c, (nowL l K)[0]? = some c := ⟨_, List.getElem?_eq_getElem (by omega)⟩
              obtain ⟨bn, on, rfl⟩ := nd_some HN2.out hc0
              obtain ⟨⟨_, y1, _⟩, _⟩ := nd_of HN2.out hc0
              rw [Nat.zero_mul, Nat.add_zero] at y1
              have hq : quietI (nowL l K) = ((nowL l K).map Nd.jit).foldl min c0.jit := by
                unfold quietI jitN
                simp [List.getD, hc0]
              have HQ := Lib.hid hq
              have bR := Below.refl w2.heap.size w2
              have k1 : (0 : Int) < (K.length : Int) := by omega
              have G := Lib.hid g
              clear hq hc0 g
              go_wp2_with fail
              go_loopw [12, 13] (fun q i wr => ∃ n : Nat, n ≤ K.length ∧ i = .int .i64 (n : Int) ∧ q = .int .i64 ((((nowL l K).take n).map Nd.jit).foldl min c0.jit) ∧ Below w2.heap.size w2 wr) (fun _ i _ => K.length - (intOf i).toNat)
              case atStart => exact ⟨0, Nat.zero_le _, rfl, rfl, bR⟩
              case round =>
                obtain ⟨n, hn, rfl, rfl, hB⟩ := hrel
                clear bR y1 gd
                by_cases hlt : n < K.length
                · obtain ⟨c, hc⟩ : ∃ c, (nowL l K)[n]? = some c := ⟨_, List.getElem?_eq_getElem (by omega)⟩
                  have i1 : (n : Int) < K.length := by omega
                  have i0' : (0 : Int) ≤ (n : Int) := by omega
                  obtain ⟨⟨_, y1, _⟩, fb⟩ := nd_of HN2.out hc
                  have lbn : bn < w2.heap.size := Nat.lt_of_lt_of_le fb.2 zn
                  have x1' : wr.cell? ⟨bn, on + n * 3 + 1, none⟩ = some (.int .i64 c.jit) := by rw [hB.cell lbn]; exact y1
                  have m1 := fmin_step (a := c0.jit) hc
                  generalize (((nowL l K).take n).map Nd.jit).foldl min c0.jit = a at *
                  have f1 := fun ts t W => run_min17 a c.jit _ m1.symm ts t W
                  generalize hA : (((nowL l K).take (n + 1)).map Nd.jit).foldl min c0.jit = A at *
                  have HA := Lib.hid hA
                  have BB := Lib.hid hB
                  clear m1 hc y1 hB hA
                  go_wp2_with fail
                  go_roundw
                  case rel => exact ⟨n + 1, by omega, by go_num, by rw [HA.out], BB.out⟩
                  case measure => simp [intOf]; omega
                · have enl : n = K.length := by omega
                  subst enl
                  generalize wr = wq at *
                  rw [show (nowL l K).take K.length = nowL l K from List.take_of_length_le (by omega), ← HQ.out]
                  have B3 := Lib.hid (BW.out.trans (hB.mono z2))
                  have BQ := Lib.hid (B2.out.trans (hB.mono (Nat.le_trans zo z2)))
                  have z3 : wo.heap.size ≤ wq.heap.size := B3.out.size
                  have hql : (goneU K at_ K.length).length + 1 = K.length := by
                    rw [goneU_all, gone_length (by rw [← hnl]; exact HW.out.2.2.2 (by omega))]
                    omega
                  clear hB hlt hn
                  generalize hqq : quietI (nowL l K) = qu at *
                  by_cases g : far < qu
                  · have gd : decide (far < qu) = true := decide_eq_true g
                    have hv := HW.out.2.1 g K.length
                    rw [PR.out] at hv
                    have HV := Lib.hid hv
                    clear hv g
                    go_wp2_with fail
                    go_ret2
                    exact ⟨.slice xo K.length co, by rw [HV.out]; rfl, by rw [HV.out]; exact (HK.out.kept (fun b h => B3.out.block b h.2)).mono (fun b h => ⟨h.1, by omega⟩), BQ.out⟩
                  · have gd : decide (far < qu) = false := decide_eq_false g
                    have hv : prnP l least (goneL K at_).length (goneL K at_) = prune l least := by
                      have h1 := HW.out.2.2.1 (by have := HM.out; have := G.out; omega) (by omega) (goneL K at_).length
                      rw [← goneU_all, hql, PR.out, goneU_all] at h1
                      exact h1.symm
                    have HV := Lib.hid hv
                    have ownX := ownsRow_fresh wq 3 1 wq.heap.size (Nat.le_refl _)
                    have bX := (Below.refl wq.heap.size wq).alloc (Nat.le_refl _) (.cells #[] 3)
                    clear hv g hqq
                    go_wp2_with fail
                    go_loopw [14, 15] (fun o i wr => ∃ n : Nat, n ≤ K.length ∧ i = .int .i64 (n : Int) ∧ wr.ownsRow wq.heap.size 3 1 o (goneU K at_ n).length ((goneU K at_ n).flatMap plE) ∧ Below wq.heap.size wq wr) (fun _ i _ => K.length - (intOf i).toNat)
                    case atStart => exact ⟨0, Nat.zero_le _, rfl, by rw [goneU_zero]; exact ownX, bX⟩
                    case round =>
                      obtain ⟨n, hn, rfl, ownX', hB⟩ := hrel
                      clear ownX bX gd
                      have zx := hB.size
                      have hgl := goneU_length K at_ n
                      by_cases hlt : n < K.length
                      · obtain ⟨x, hx⟩ : ∃ x, K[n]? = some x := ⟨_, List.getElem?_eq_getElem hlt⟩
                        obtain ⟨bk, ok, rfl⟩ := pl_some HK.out hx
                        obtain ⟨kx, fk⟩ := pl_cell HK.out hx
                        have kx' : wr.cell? ⟨bk, ok + n, none⟩ = some (.int .i64 (x : Int)) := by rw [hB.cell (Nat.lt_of_lt_of_le fk.2 z3), B3.out.cell fk.2]; exact kx
                        have st := goneU_step (a := at_) hx
                        have i1 : (n : Int) < K.length := by omega
                        have i0' : (0 : Int) ≤ (n : Int) := by omega
                        by_cases e : n = at_
                        · have e1 : ((n : Int) != (at_ : Int)) = false := by subst e; simp
                          rw [if_pos e] at st
                          have OO := Lib.hid (And.intro st (And.intro ownX' hB))
                          clear st ownX' hB kx fk hx e
                          go_wp2_with fail
                          go_roundw
                          case rel => exact ⟨n + 1, by omega, by go_num, by rw [OO.out.1]; exact OO.out.2.1, OO.out.2.2⟩
                          case measure => simp [intOf]; omega
                        · have e1 : ((n : Int) != (at_ : Int)) = true := bne_iff_ne.2 (by omega)
                          rw [if_neg e] at st
                          have ST := Lib.hid st
                          clear st kx fk hx e
                          go_wp2_with (at_builtin; refine wpList_append_own _ rfl _ _ 29 rfl wq.heap.size 3 j0 _ 1 8 Try.underlying29 hj0 hy0 hy1 hy2 rfl (by decide) _ _ _ rfl (ownX'.alloc _) ⟨wr.heap.size, 0, none⟩ 1 1 [.int .i64 (x : Int)] rfl rfl (new_row15 _ _ _) (by simp [Value.oneCell']) (by (try simp only [List.length_append, List.length_cons, List.length_nil]); unfold maxLen; omega) (by (try simp only [List.length_append, List.length_cons, List.length_nil]); omega) (by first | (rw [World.size_alloc]; omega) | (simp; omega)) ?_; intro v4 w4 hown4 hgrow4 _; have own4 : w4.ownsRow wq.heap.size 3 1 v4 ((goneU K at_ n).length + 1) (((goneU K at_ n) ++ [x]).flatMap plE) := (by rw [plE_snoc]; exact hown4); have B4 := (hB.alloc (by omega) (.cells #[.int .i64 (x : Int)] 3)).grown hgrow4 (by first | (rw [World.size_alloc]; omega) | (simp; omega)) (fun g hg => by have := (ownX'.lt g hg).1; omega))
                          go_roundw
                          case rel => exact ⟨n + 1, by omega, by go_num, by rw [ST.out, List.length_append]; exact own4, B4⟩
                          case measure => simp [intOf]; omega
                      · have enl : n = K.length := by omega
                        subst enl
                        have OO := Lib.hid (And.intro ownX' hB)
                        clear ownX' hB hlt hn hgl
                        go_wp2_with fail
                        go_roundw
                        case rel =>
                          refine ⟨goneL K at_, ?_, fun x hx => KM.out x (gone_mem hx), HV.out, ?_, BQ.out.trans (OO.out.2.mono (Nat.le_trans zo z3))⟩
                          · rw [← goneU_all]; omega
                          · rw [← goneU_all]; exact OO.out.1.mono (Nat.le_trans zo z3)
                        case measure =>
                          obtain ⟨xx, cc, e⟩ := (SlAt.own plE_length OO.out.1).slice
                          simp [e, slLen]
                          omega
end Go.Proofs.Ytefjdmbioclddaa.W
