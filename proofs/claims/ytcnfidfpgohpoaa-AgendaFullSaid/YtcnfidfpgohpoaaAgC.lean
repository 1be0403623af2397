/- The document's own answers of layer 8, walked: lay. -/
import Derived.Test.YtcnfidfpgohpoaaAgB
import Derived.Test.YtcnfidfpgohpoaaWdefs
import Derived.Maps.AppendAt
namespace Go.Proofs.Ytcnfidfpgohpoaa.W
open Go.RowKit Go.Sort
set_option linter.unusedVariables false
set_option linter.unusedSimpArgs false
theorem below_grown8 {w w' : World} (h : Below w.heap.size w w') : w.grownBy w' none := ⟨h.os, h.tape, h.output, h.size, fun k hk _ => h.block k hk⟩
theorem lay_keep {u u' : World} {xb p b : Nat} {v0 v1 v2 v3 v4 v5 v6 v7 v8 : Value} {o0 o1 o2 o3 : Nat} (hB : Below u.heap.size u u') (lx : xb < u.heap.size) (lp : p < u.heap.size) (lb : b < u.heap.size)
    (h : u.cell? ⟨xb, 0, none⟩ = some v0 ∧ u.cell? ⟨xb, 1, none⟩ = some v1 ∧ u.cell? ⟨xb, 2, none⟩ = some v2 ∧ u.cell? ⟨xb, 3, none⟩ = some v3 ∧ u.cell? ⟨p, 0, none⟩ = some v4 ∧ u.cell? ⟨b, o0, none⟩ = some v5 ∧ u.cell? ⟨b, o1, none⟩ = some v6 ∧ u.cell? ⟨b, o2, none⟩ = some v7 ∧ u.cell? ⟨b, o3, none⟩ = some v8) :
    u'.cell? ⟨xb, 0, none⟩ = some v0 ∧ u'.cell? ⟨xb, 1, none⟩ = some v1 ∧ u'.cell? ⟨xb, 2, none⟩ = some v2 ∧ u'.cell? ⟨xb, 3, none⟩ = some v3 ∧ u'.cell? ⟨p, 0, none⟩ = some v4 ∧ u'.cell? ⟨b, o0, none⟩ = some v5 ∧ u'.cell? ⟨b, o1, none⟩ = some v6 ∧ u'.cell? ⟨b, o2, none⟩ = some v7 ∧ u'.cell? ⟨b, o3, none⟩ = some v8 := by
  have k := (bcell hB).1
  obtain ⟨h0, h1, h2, h3, h4, h5, h6, h7, h8⟩ := h
  exact ⟨(k _ _ lx).trans h0, (k _ _ lx).trans h1, (k _ _ lx).trans h2, (k _ _ lx).trans h3, (k _ _ lp).trans h4, (k _ _ lb).trans h5, (k _ _ lb).trans h6, (k _ _ lb).trans h7, (k _ _ lb).trans h8⟩
/-- Behind the loop: the list is the agenda's. -/
theorem lay_fin {F : Nat → Prop} {w w1 w2 : World} {p : Nat} {a : Ag} {v : Value} {l' : List It} (hc : RaIn F w p a) (hB1 : Below w.heap.size w w1) (hB2 : Below w1.heap.size w1 w2)
    (own : w2.ownsRow w1.heap.size 42 4 v l'.length (l'.flatMap itE)) : RaIn (Gr F w (w2.setCell ⟨p, 0, none⟩ v)) (w2.setCell ⟨p, 0, none⟩ v) p ⟨l', a.n⟩ ∧ Touch F w (w2.setCell ⟨p, 0, none⟩ v) := by
  have hB := hB1.trans (hB2.mono hB1.size)
  obtain ⟨hp, hF, u, hb, _⟩ := hc.below hB
  have t := (Touch.of_below F hB).setCell (p := ⟨p, 0, none⟩) (.inl hp) v
  have hpw := hc.lt p hp
  have z1 := hB1.size
  refine ⟨⟨.inl hp, gr_lt hc.lt t.size, v, block_set 0 v hb, ?_⟩, t⟩
  refine ((SlAt.own itE_length own).mono (fun k hk => ⟨.inr ⟨by omega, by rw [set_size]; exact hk.2⟩, fun e => ?_⟩)).kept (fun k hk => block_far _ _ hk.2)
  have := hk.1
  omega
set_option maxRecDepth 100000 in
set_option maxHeartbeats 12800000 in
theorem rlay_any {F : Nat → Prop} {p : Nat} {a : Ag} (x : It) (hl : a.l.length ≤ 100000) (w : World) (hc : RaIn F w p a) :
    Calls Try.prog 35 #[.pointer (some ⟨p, 0, none⟩), .agg #[.int .i64 x.at_, .int .i64 x.kind, .string (bs x.data), .int .i64 x.ticket]] w fun e w' => (∃ v, e = .returned v) ∧ RaIn (Gr F w w') w' p ⟨layL x a.l, a.n⟩ ∧ Touch F w w' := by
  obtain ⟨i0, hi0, hz0, hz1, hz2⟩ := info_parts info_It
  have hA : Below w.heap.size w (w.alloc (.cells #[.int .i64 x.at_, .int .i64 x.kind, .string (bs x.data), .int .i64 x.ticket] 42)) := Below.alloc (Below.refl _ _) (Nat.le_refl _) _
  have hx : (w.alloc (.cells #[.int .i64 x.at_, .int .i64 x.kind, .string (bs x.data), .int .i64 x.ticket] 42)).heap[w.heap.size]? = some (.cells #[.int .i64 x.at_, .int .i64 x.kind, .string (bs x.data), .int .i64 x.ticket] 42 (0, 0)) := heap_alloc_new _ _
  have hs1 : (w.alloc (.cells #[.int .i64 x.at_, .int .i64 x.kind, .string (bs x.data), .int .i64 x.ticket] 42)).heap.size = w.heap.size + 1 := World.size_alloc _ _
  have HC := Lib.hid hc
  have hc1 := hc.below hA
  clear hc
  go_enter Try.func35, Try.ntmps35
  go_wp2
  generalize hw1 : w.alloc (.cells #[.int .i64 x.at_, .int .i64 x.kind, .string (bs x.data), .int .i64 x.ticket] 42) = w1 at *
  have hxl := (Array.getElem?_eq_some_iff.1 hx).1
  clear hw1
  go_loopw [4, 5, 6] (fun o dn i wr => ∃ (k : Nat) (out : List It) (d : Bool), k ≤ a.l.length ∧ i = .int .i64 k ∧ dn = .bool d ∧ wr.ownsRow w1.heap.size 42 4 o out.length (out.flatMap itE) ∧ Below w1.heap.size w1 wr ∧ LayR x a.l k out d) (fun _ _ i _ => a.l.length - (intOf i).toNat)
  case atStart => exact ⟨0, [], false, Nat.zero_le _, rfl, rfl, by rw [← hs1]; exact ownsRow_fresh _ _ _ _ (Nat.le_refl _), (Below.refl _ _).alloc (Nat.le_refl _) _, lay_start x a.l⟩
  case round =>
    obtain ⟨k, out, d, hk, rfl, rfl, own, hB, hR⟩ := hrel
    have hsz := hB.size
    have hol := hR.len
    obtain ⟨hp, hF, v, hb, hs⟩ := hc1
    obtain ⟨p0, p1, pf0, pf1⟩ := two_cells hb
    obtain ⟨x0, x1, x2, x3⟩ := four_cells hx
    have hpl := hF p hp
    by_cases hlt : k < a.l.length
    · obtain ⟨y, hy, _⟩ := at_index a.l k hlt
      rcases hs with ⟨_, _, _, _, hnil⟩ | ⟨b, off, cap, rfl, hbF, hcs⟩
      · rw [hnil] at hlt
        simp at hlt
      · have hbl := hF b hbF.1
        obtain ⟨y0, y1, y2, y3⟩ := it_at (F := F) (w := w1) rfl (hcs k y hy)
        have i0' : (0 : Int) ≤ (k : Int) := by omega
        have i1' : (k : Int) < (a.l.length : Int) := by omega
        have HK1 := Lib.hid (show w1.cell? ⟨w.heap.size, 0, none⟩ = some (.int .i64 x.at_) ∧ w1.cell? ⟨w.heap.size, 1, none⟩ = some (.int .i64 x.kind) ∧ w1.cell? ⟨w.heap.size, 2, none⟩ = some (.string (bs x.data)) ∧ w1.cell? ⟨w.heap.size, 3, none⟩ = some (.int .i64 x.ticket) ∧ w1.cell? ⟨p, 0, none⟩ = some (.slice (some ⟨b, off, none⟩) a.l.length cap) ∧ w1.cell? ⟨b, off + k * 4, none⟩ = some (.int .i64 y.at_) ∧ w1.cell? ⟨b, off + k * 4 + 1, none⟩ = some (.int .i64 y.kind) ∧ w1.cell? ⟨b, off + k * 4 + 2, none⟩ = some (.string (bs y.data)) ∧ w1.cell? ⟨b, off + k * 4 + 3, none⟩ = some (.int .i64 y.ticket) from ⟨x0, x1, x2, x3, p0, y0, y1, y2, y3⟩)
        have HY := Lib.hid hy
        have HR := Lib.hid hR
        clear hy hR hcs hb hx x0 x1 x2 x3 p0 p1 pf0 pf1 y0 y1 y2 y3
        have ca := rahead_any x y
        have BD : Below w1.heap.size w1 wr.drew := hB.drew
        obtain ⟨_, _, _, _, pr0, _⟩ := lay_keep hB hxl hpl hbl HK1.out
        cases d
        · cases ha : ahead x y
          · rw [ha] at ca
            go_wp2_with fail
            go_region_held3 (fun w' => w'.cell? ⟨w.heap.size, 0, none⟩ = some (.int .i64 x.at_) ∧ w'.cell? ⟨w.heap.size, 1, none⟩ = some (.int .i64 x.kind) ∧ w'.cell? ⟨w.heap.size, 2, none⟩ = some (.string (bs x.data)) ∧ w'.cell? ⟨w.heap.size, 3, none⟩ = some (.int .i64 x.ticket) ∧ w'.cell? ⟨p, 0, none⟩ = some (.slice (some ⟨b, off, none⟩) a.l.length cap) ∧ w'.cell? ⟨b, off + k * 4, none⟩ = some (.int .i64 y.at_) ∧ w'.cell? ⟨b, off + k * 4 + 1, none⟩ = some (.int .i64 y.kind) ∧ w'.cell? ⟨b, off + k * 4 + 2, none⟩ = some (.string (bs y.data)) ∧ w'.cell? ⟨b, off + k * 4 + 3, none⟩ = some (.int .i64 y.ticket))
              (first | exact lay_keep BD hxl hpl hbl HK1.out | exact lay_keep (BD.trans (hB5.mono hsz)) hxl hpl hbl HK1.out)
              (first | (go_at_call 46; refine (ca _).mono ?_; rintro e w5 ⟨rfl, hB5⟩))
            have B5 : Below w1.heap.size w1 w5 := BD.trans (hB5.mono hsz)
            obtain ⟨x0, x1, x2, x3, p0, y0, y1, y2, y3⟩ := lay_keep B5 hxl hpl hbl HK1.out
            have own5 := own.kept (w' := w5) (below_grown8 (w := wr) ((Below.drew (Below.refl _ _)).trans hB5)) (Classical.em _)
            have zz5 := B5.size
            clear pr0
            go_wp2_with (at_builtin; refine wpList_append_own _ rfl _ _ 28 rfl w1.heap.size 42 i0 _ 4 40 Try.underlying28 hi0 hz0 hz1 hz2 rfl (by decide) _ _ _ rfl (own5.alloc _) ⟨w5.heap.size, 0, none⟩ 1 1 [.int .i64 y.at_, .int .i64 y.kind, .string (bs y.data), .int .i64 y.ticket] rfl rfl (it_row _ _ _) (itE_one y) (by (try simp only [List.length_append, List.length_cons, List.length_nil]); unfold maxLen; omega) (by (try simp only [List.length_append, List.length_cons, List.length_nil]); omega) (by simp; omega) ?_; intro v6 w6 own6 g6 _; have own6' : w6.ownsRow w1.heap.size 42 4 v6 (out ++ [y]).length ((out ++ [y]).flatMap itE) := (by rw [it_snoc] at own6; simpa using own6); have B6 := (B5.alloc zz5 (.cells #[.int .i64 y.at_, .int .i64 y.kind, .string (bs y.data), .int .i64 y.ticket] 42)).grown g6 (by simp; omega) (fun j hj => (own5.lt j hj).1); have zz6 := B6.size)
            go_roundw
            case rel => exact ⟨k + 1, out ++ [y], false, by omega, by go_num, rfl, own6', B6, lay_not HR.out HY.out ha⟩
            case measure => simp [intOf]; omega
          · rw [ha] at ca
            go_wp2_with fail
            go_region_held3 (fun w' => w'.cell? ⟨w.heap.size, 0, none⟩ = some (.int .i64 x.at_) ∧ w'.cell? ⟨w.heap.size, 1, none⟩ = some (.int .i64 x.kind) ∧ w'.cell? ⟨w.heap.size, 2, none⟩ = some (.string (bs x.data)) ∧ w'.cell? ⟨w.heap.size, 3, none⟩ = some (.int .i64 x.ticket) ∧ w'.cell? ⟨p, 0, none⟩ = some (.slice (some ⟨b, off, none⟩) a.l.length cap) ∧ w'.cell? ⟨b, off + k * 4, none⟩ = some (.int .i64 y.at_) ∧ w'.cell? ⟨b, off + k * 4 + 1, none⟩ = some (.int .i64 y.kind) ∧ w'.cell? ⟨b, off + k * 4 + 2, none⟩ = some (.string (bs y.data)) ∧ w'.cell? ⟨b, off + k * 4 + 3, none⟩ = some (.int .i64 y.ticket))
              (first | exact lay_keep BD hxl hpl hbl HK1.out | exact lay_keep (BD.trans (hB5.mono hsz)) hxl hpl hbl HK1.out)
              (first | (go_at_call 46; refine (ca _).mono ?_; rintro e w5 ⟨rfl, hB5⟩))
            have B5 : Below w1.heap.size w1 w5 := BD.trans (hB5.mono hsz)
            obtain ⟨x0, x1, x2, x3, p0, y0, y1, y2, y3⟩ := lay_keep B5 hxl hpl hbl HK1.out
            have own5 := own.kept (w' := w5) (below_grown8 (w := wr) ((Below.drew (Below.refl _ _)).trans hB5)) (Classical.em _)
            have zz5 := B5.size
            clear pr0
            go_wp2_with (first | (at_builtin; refine wpList_append_own _ rfl _ _ 28 rfl w1.heap.size 42 i0 _ 4 40 Try.underlying28 hi0 hz0 hz1 hz2 rfl (by decide) _ _ _ rfl (own5.alloc _) ⟨w5.heap.size, 0, none⟩ 1 1 [.int .i64 x.at_, .int .i64 x.kind, .string (bs x.data), .int .i64 x.ticket] rfl rfl (it_row _ _ _) (itE_one x) (by (try simp only [List.length_append, List.length_cons, List.length_nil]); unfold maxLen; omega) (by (try simp only [List.length_append, List.length_cons, List.length_nil]); omega) (by simp; omega) ?_; intro v6 w6 own6 g6 _; have own6' : w6.ownsRow w1.heap.size 42 4 v6 (out ++ [x]).length ((out ++ [x]).flatMap itE) := (by rw [it_snoc] at own6; simpa using own6); have B6 := (B5.alloc zz5 (.cells #[.int .i64 x.at_, .int .i64 x.kind, .string (bs x.data), .int .i64 x.ticket] 42)).grown g6 (by simp; omega) (fun j hj => (own5.lt j hj).1); have zz6 := B6.size; obtain ⟨x0, x1, x2, x3, p0, y0, y1, y2, y3⟩ := lay_keep B6 hxl hpl hbl HK1.out) | (at_builtin; refine wpList_append_own _ rfl _ _ 28 rfl w1.heap.size 42 i0 _ 4 40 Try.underlying28 hi0 hz0 hz1 hz2 rfl (by decide) _ _ _ rfl (own6'.alloc _) ⟨w6.heap.size, 0, none⟩ 1 1 [.int .i64 y.at_, .int .i64 y.kind, .string (bs y.data), .int .i64 y.ticket] rfl rfl (it_row _ _ _) (itE_one y) (by (try simp only [List.length_append, List.length_cons, List.length_nil]); unfold maxLen; omega) (by (try simp only [List.length_append, List.length_cons, List.length_nil]); omega) (by simp; omega) ?_; intro v7 w7 own7 g7 _; have own7' : w7.ownsRow w1.heap.size 42 4 v7 ((out ++ [x]) ++ [y]).length (((out ++ [x]) ++ [y]).flatMap itE) := (by rw [it_snoc] at own7; simpa using own7); have B7 := (B6.alloc zz6 (.cells #[.int .i64 y.at_, .int .i64 y.kind, .string (bs y.data), .int .i64 y.ticket] 42)).grown g7 (by simp; omega) (fun j hj => (own6'.lt j hj).1); have zz7 := B7.size))
            go_roundw
            case rel => exact ⟨k + 1, out ++ [x] ++ [y], true, by omega, by go_num, rfl, own7', B7, lay_here HR.out HY.out ha⟩
            case measure => simp [intOf]; omega
        · go_wp2_with fail
          go_quiet (fail)
          have BD : Below w1.heap.size w1 (wr.drewN nq) := below_drewN hB nq
          obtain ⟨x0, x1, x2, x3, p0, y0, y1, y2, y3⟩ := lay_keep BD hxl hpl hbl HK1.out
          have own5 := own.kept (w' := wr.drewN nq) (below_grown8 (w := wr) (below_drewN (Below.refl _ _) nq)) (Classical.em _)
          have zz5 : w1.heap.size ≤ (wr.drewN nq).heap.size := hsz
          clear pr0
          go_wp2_with (at_builtin; refine wpList_append_own _ rfl _ _ 28 rfl w1.heap.size 42 i0 _ 4 40 Try.underlying28 hi0 hz0 hz1 hz2 rfl (by decide) _ _ _ rfl (own5.alloc _) ⟨(wr.drewN nq).heap.size, 0, none⟩ 1 1 [.int .i64 y.at_, .int .i64 y.kind, .string (bs y.data), .int .i64 y.ticket] rfl rfl (it_row _ _ _) (itE_one y) (by (try simp only [List.length_append, List.length_cons, List.length_nil]); unfold maxLen; omega) (by (try simp only [List.length_append, List.length_cons, List.length_nil]); omega) (by simp; omega) ?_; intro v6 w6 own6 g6 _; have own6' : w6.ownsRow w1.heap.size 42 4 v6 (out ++ [y]).length ((out ++ [y]).flatMap itE) := (by rw [it_snoc] at own6; simpa using own6); have B6 := (BD.alloc zz5 (.cells #[.int .i64 y.at_, .int .i64 y.kind, .string (bs y.data), .int .i64 y.ticket] 42)).grown g6 (by simp; omega) (fun j hj => (own5.lt j hj).1); have zz6 := B6.size)
          go_roundw
          case rel => exact ⟨k + 1, out ++ [y], true, by omega, by go_num, rfl, own6', B6, lay_done HR.out HY.out⟩
          case measure => simp [intOf]; omega
    · obtain rfl : k = a.l.length := by omega
      have pr0 := ((bcell hB).1 p 0 hpl).trans p0
      have pf := ((bcell hB).2 p 0 hpl).trans pf0
      obtain ⟨x0, x1, x2, x3⟩ := four_cells ((hB.block _ hxl).trans hx)
      have HR := Lib.hid hR
      have HB1 := Lib.hid hA
      obtain ⟨vx, vc, rfl⟩ := hs.slice
      have P0 := Lib.hid p0
      have PF0 := Lib.hid pf0
      clear hR hs p0 p1 pf0 pf1 hb hx hA
      cases d
      · go_wp2_with (at_builtin; refine wpList_append_own _ rfl _ _ 28 rfl w1.heap.size 42 i0 _ 4 40 Try.underlying28 hi0 hz0 hz1 hz2 rfl (by decide) _ _ _ rfl (own.alloc _) ⟨(wr).heap.size, 0, none⟩ 1 1 [.int .i64 x.at_, .int .i64 x.kind, .string (bs x.data), .int .i64 x.ticket] rfl rfl (it_row _ _ _) (itE_one x) (by (try simp only [List.length_append, List.length_cons, List.length_nil]); unfold maxLen; omega) (by (try simp only [List.length_append, List.length_cons, List.length_nil]); omega) (by simp; omega) ?_; intro v6 w6 own6 g6 _; have own6' : w6.ownsRow w1.heap.size 42 4 v6 (out ++ [x]).length ((out ++ [x]).flatMap itE) := (by rw [it_snoc] at own6; simpa using own6); have B6 := (hB.alloc hsz (.cells #[.int .i64 x.at_, .int .i64 x.kind, .string (bs x.data), .int .i64 x.ticket] 42)).grown g6 (by simp; omega) (fun j hj => (own.lt j hj).1); have zz6 := B6.size; obtain ⟨gg, gc, rfl⟩ := ownsRow_succ7 own6; have pf6 := ((bcell B6).2 p 0 hpl).trans PF0.out; have pc6 := ((bcell B6).1 p 0 hpl).trans P0.out)
        have hfin := lay_fin HC.out HB1.out B6 own6'
        rw [lay_last HR.out] at hfin
        go_end0
        exact ⟨⟨_, rfl⟩, hfin⟩
      · have own0 := own
        rw [lay_end HR.out] at own0
        have hfin := lay_fin HC.out HB1.out hB own0
        clear own0
        rcases own.2 with ⟨rfl, _⟩ | ⟨gg, gc, cur, rfl, _⟩
        all_goals
          go_wp2_with fail
          go_end0
          exact ⟨⟨_, rfl⟩, hfin⟩
end Go.Proofs.Ytcnfidfpgohpoaa.W
