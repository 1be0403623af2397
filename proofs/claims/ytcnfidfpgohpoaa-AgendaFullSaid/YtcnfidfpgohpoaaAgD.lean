/- The document's own answers of layer 8, walked: pick. -/
import Derived.Test.YtcnfidfpgohpoaaAgC
namespace Go.Proofs.Ytcnfidfpgohpoaa.W
open Go.RowKit Go.Sort
set_option linter.unusedVariables false
set_option linter.unusedSimpArgs false
/-- How far picking has come. -/
def lastL (t : Int) (l : List It) : It := l.foldl (fun x y => if y.ticket = t then y else x) itZero
theorem last_next (t : Int) (l : List It) (k : Nat) (y : It) (h : l[k]? = some y) : lastL t (l.take (k + 1)) = if y.ticket = t then y else lastL t (l.take k) := by
  rw [take_next l k y h]
  unfold lastL
  rw [List.foldl_append]
  rfl
theorem off_next (t : Int) (l : List It) (k : Nat) (y : It) (h : l[k]? = some y) : offL t (l.take (k + 1)) = if y.ticket = t then offL t (l.take k) else offL t (l.take k) ++ [y] := by
  rw [take_next l k y h]
  unfold offL
  rw [List.filter_append]
  by_cases e : y.ticket = t
  · simp [e]
  · simp [e]
theorem has_next (t : Int) (l : List It) (k : Nat) (y : It) (h : l[k]? = some y) : hasL t (l.take (k + 1)) = (hasL t (l.take k) || decide (y.ticket = t)) := by
  rw [take_next l k y h]
  unfold hasL
  rw [List.any_append]
  simp
theorem last_none {t : Int} {l : List It} (h : hasL t l = false) : lastL t l = itZero := by
  unfold hasL at h
  rw [List.any_eq_false] at h
  unfold lastL
  suffices ∀ z, l.foldl (fun x y => if y.ticket = t then y else x) z = z from this _
  induction l with
  | nil => intro z; rfl
  | cons y l ih =>
    intro z
    have hy := h y (List.mem_cons_self ..)
    rw [List.foldl_cons, if_neg (by simpa using hy)]
    exact ih (fun x hx => h x (List.mem_cons_of_mem _ hx)) z
/-- With each ticket once, the last one of a ticket is the first one. -/
theorem last_find {t : Int} {l : List It} (h : l.Pairwise fun x y => x.ticket ≠ y.ticket) {x : It} (hf : findL t l = some x) : lastL t l = x := by
  unfold findL at hf
  unfold lastL
  suffices ∀ z, l.foldl (fun x y => if y.ticket = t then y else x) z = x from this _
  induction l with
  | nil => simp at hf
  | cons y l ih =>
    intro z
    obtain ⟨h1, h2⟩ := List.pairwise_cons.1 h
    rw [List.foldl_cons]
    by_cases e : y.ticket = t
    · rw [if_pos e]
      rw [List.find?_cons, show decide (y.ticket = t) = true by simpa using e] at hf
      simp at hf
      subst hf
      have hno : ∀ u ∈ l, ¬ u.ticket = t := fun u hu e' => h1 u hu (by rw [e, e'])
      clear ih h h1 h2 e
      induction l generalizing y with
      | nil => rfl
      | cons u l ih =>
        rw [List.foldl_cons, if_neg (hno u (List.mem_cons_self ..))]
        exact ih y (fun v hv => hno v (List.mem_cons_of_mem _ hv))
    · rw [if_neg e]
      rw [List.find?_cons, show decide (y.ticket = t) = false by simpa using e] at hf
      exact ih h2 hf z
theorem it_sets {w : World} {b : Nat} {v0 v1 v2 v3 : Value} {t : TypeId} (x0 x1 x2 x3 : Value) (h : w.heap[b]? = some (.cells #[v0, v1, v2, v3] t (0, 0))) :
    ((((w.setCell ⟨b, 0, none⟩ x0).setCell ⟨b, 1, none⟩ x1).setCell ⟨b, 2, none⟩ x2).setCell ⟨b, 3, none⟩ x3).heap[b]? = some (.cells #[x0, x1, x2, x3] t (0, 0)) :=
  block_set 3 x3 (block_set 2 x2 (block_set 1 x1 (block_set 0 x0 h)))
theorem it_far {w : World} {b k : Nat} (x0 x1 x2 x3 : Value) (hk : k ≠ b) :
    ((((w.setCell ⟨b, 0, none⟩ x0).setCell ⟨b, 1, none⟩ x1).setCell ⟨b, 2, none⟩ x2).setCell ⟨b, 3, none⟩ x3).heap[k]? = w.heap[k]? := by
  rw [block_far _ _ hk, block_far _ _ hk, block_far _ _ hk, block_far _ _ hk]
theorem it_grown (w : World) (b : Nat) (x0 x1 x2 x3 : Value) :
    w.grownBy ((((w.setCell ⟨b, 0, none⟩ x0).setCell ⟨b, 1, none⟩ x1).setCell ⟨b, 2, none⟩ x2).setCell ⟨b, 3, none⟩ x3) (some b) :=
  ⟨rfl, rfl, rfl, by rw [set_size, set_size, set_size, set_size]; exact Nat.le_refl _, fun k _ hk => it_far _ _ _ _ (fun e => hk (by rw [e]))⟩
theorem four_frozen {w : World} {p : Nat} {a b c d : Value} {t : TypeId} (h : w.heap[p]? = some (.cells #[a, b, c, d] t (0, 0))) :
    w.frozen? ⟨p, 0, none⟩ = false ∧ w.frozen? ⟨p, 1, none⟩ = false ∧ w.frozen? ⟨p, 2, none⟩ = false ∧ w.frozen? ⟨p, 3, none⟩ = false := by
  refine ⟨?_, ?_, ?_, ?_⟩ <;> simp [World.frozen?, h]
theorem pick_fin {F : Nat → Prop} {w w1 w2 : World} {p : Nat} {a : Ag} {v : Value} {l' : List It} {r0 r1 r2 r3 : Value} (x0 x1 x2 x3 : Value) (hr : w2.heap[w.heap.size]? = some (.cells #[r0, r1, r2, r3] 42 (0, 0))) (hc : RaIn F w p a) (hB1 : Below w.heap.size w w1) (hs : w1.heap.size = w.heap.size + 1) (hB2 : Below w1.heap.size w1 w2)
    (own : w2.ownsRow w1.heap.size 42 4 v l'.length (l'.flatMap itE)) :
    RaIn (Gr F w (((((w2.setCell ⟨p, 0, none⟩ v).setCell ⟨w.heap.size, 0, none⟩ x0).setCell ⟨w.heap.size, 1, none⟩ x1).setCell ⟨w.heap.size, 2, none⟩ x2).setCell ⟨w.heap.size, 3, none⟩ x3)) (((((w2.setCell ⟨p, 0, none⟩ v).setCell ⟨w.heap.size, 0, none⟩ x0).setCell ⟨w.heap.size, 1, none⟩ x1).setCell ⟨w.heap.size, 2, none⟩ x2).setCell ⟨w.heap.size, 3, none⟩ x3) p ⟨l', a.n⟩ ∧
      Touch F w (((((w2.setCell ⟨p, 0, none⟩ v).setCell ⟨w.heap.size, 0, none⟩ x0).setCell ⟨w.heap.size, 1, none⟩ x1).setCell ⟨w.heap.size, 2, none⟩ x2).setCell ⟨w.heap.size, 3, none⟩ x3) ∧ (((((w2.setCell ⟨p, 0, none⟩ v).setCell ⟨w.heap.size, 0, none⟩ x0).setCell ⟨w.heap.size, 1, none⟩ x1).setCell ⟨w.heap.size, 2, none⟩ x2).setCell ⟨w.heap.size, 3, none⟩ x3).heap[w.heap.size]? = some (.cells #[x0, x1, x2, x3] 42 (0, 0)) := by
  have hB := hB1.trans (hB2.mono hB1.size)
  obtain ⟨hp, hF, u, hb, _⟩ := hc.below hB
  have hpw := hc.lt p hp
  have t1 := (Touch.of_below F hB).setCell (p := ⟨p, 0, none⟩) (.inl hp) v
  have t := (((t1.setCell (p := ⟨w.heap.size, 0, none⟩) (.inr (Nat.le_refl _)) x0).setCell (p := ⟨w.heap.size, 1, none⟩) (.inr (Nat.le_refl _)) x1).setCell (p := ⟨w.heap.size, 2, none⟩) (.inr (Nat.le_refl _)) x2).setCell (p := ⟨w.heap.size, 3, none⟩) (.inr (Nat.le_refl _)) x3
  refine ⟨⟨.inl hp, gr_lt hc.lt t.size, v, (it_far _ _ _ _ (by omega)).trans (block_set 0 v hb), ?_⟩, t, it_sets _ _ _ _ ((block_far 0 v (by omega)).trans hr)⟩
  refine ((SlAt.own itE_length own).kept (fun k hk => ?_)).mono (fun k hk => ⟨.inr ⟨by omega, by rw [set_size, set_size, set_size, set_size, set_size]; exact hk.2⟩, fun e => ?_⟩)
  · have := hk.1
    rw [it_far _ _ _ _ (by omega)]
    exact block_far _ _ (by show k ≠ p; omega)
  · have := hk.1
    omega
set_option maxRecDepth 100000 in
set_option maxHeartbeats 12800000 in
theorem rpick_any {F : Nat → Prop} {p : Nat} {a : Ag} (t : Int) (hl : a.l.length ≤ 100000) (w : World) (hc : RaIn F w p a) :
    Calls Try.prog 36 #[.pointer (some ⟨p, 0, none⟩), .int .i64 t] w fun e w' => e = .returned (.tuple #[.agg #[.int .i64 (lastL t a.l).at_, .int .i64 (lastL t a.l).kind, .string (bs (lastL t a.l).data), .int .i64 (lastL t a.l).ticket], .bool (hasL t a.l)]) ∧ RaIn (Gr F w w') w' p (canS a t) ∧ Touch F w w' := by
  obtain ⟨i0, hi0, hz0, hz1, hz2⟩ := info_parts info_It
  have hA : Below w.heap.size w (w.alloc (.cells #[.int .i64 0, .int .i64 0, .string { data := #[] }, .int .i64 0] 42)) := Below.alloc (Below.refl _ _) (Nat.le_refl _) _
  have hx : (w.alloc (.cells #[.int .i64 0, .int .i64 0, .string { data := #[] }, .int .i64 0] 42)).heap[w.heap.size]? = some (.cells #[.int .i64 0, .int .i64 0, .string { data := #[] }, .int .i64 0] 42 (0, 0)) := heap_alloc_new _ _
  have hs1 : (w.alloc (.cells #[.int .i64 0, .int .i64 0, .string { data := #[] }, .int .i64 0] 42)).heap.size = w.heap.size + 1 := World.size_alloc _ _
  have HC := Lib.hid hc
  have hc1 := hc.below hA
  clear hc
  go_enter Try.func36, Try.ntmps36
  go_wp2
  generalize hw1 : w.alloc (.cells #[.int .i64 0, .int .i64 0, .string { data := #[] }, .int .i64 0] 42) = w1 at *
  clear hw1
  have hB0 : Below w1.heap.size w1 ((w1.alloc (.cells #[] 42)).alloc (.cells #[.int .i64 0, .int .i64 0, .string { data := #[] }, .int .i64 0] 42)) := ((Below.refl _ _).alloc (Nat.le_refl _) _).alloc (by simp) _
  have hx0 : ((w1.alloc (.cells #[] 42)).alloc (.cells #[.int .i64 0, .int .i64 0, .string { data := #[] }, .int .i64 0] 42)).heap[w.heap.size + 1 + 1]? = some (.cells #[.int .i64 0, .int .i64 0, .string { data := #[] }, .int .i64 0] 42 (0, 0)) := by
    have := heap_alloc_new (w1.alloc (.cells #[] 42)) (.cells #[.int .i64 0, .int .i64 0, .string { data := #[] }, .int .i64 0] 42)
    rw [World.size_alloc, hs1] at this
    exact this
  have ho0 : ((w1.alloc (.cells #[] 42)).alloc (.cells #[.int .i64 0, .int .i64 0, .string { data := #[] }, .int .i64 0] 42)).ownsRow w1.heap.size 42 4 (.slice (some ⟨w.heap.size + 1, 0, none⟩) 0 0) 0 [] := by
    have := (ownsRow_fresh w1 42 4 w1.heap.size (Nat.le_refl _)).alloc (.cells #[.int .i64 0, .int .i64 0, .string { data := #[] }, .int .i64 0] 42)
    rw [hs1] at this ⊢
    exact this
  go_loopw [6, 8, 9] (fun o is i wr => ∃ k : Nat, k ≤ a.l.length ∧ i = .int .i64 k ∧ is = .bool (hasL t (a.l.take k)) ∧ wr.ownsRow w1.heap.size 42 4 o (offL t (a.l.take k)).length ((offL t (a.l.take k)).flatMap itE) ∧ o.ownBlock ≠ some (w.heap.size + 1 + 1) ∧ Below w1.heap.size w1 wr ∧
      wr.heap[w.heap.size + 1 + 1]? = some (.cells #[.int .i64 (lastL t (a.l.take k)).at_, .int .i64 (lastL t (a.l.take k)).kind, .string (bs (lastL t (a.l.take k)).data), .int .i64 (lastL t (a.l.take k)).ticket] 42 (0, 0))) (fun _ _ i _ => a.l.length - (intOf i).toNat)
  case atStart => exact ⟨0, Nat.zero_le _, rfl, rfl, ho0, by simp [Value.ownBlock], hB0, hx0⟩
  case round =>
    clear hB0 hx0 ho0
    obtain ⟨k, hk, rfl, rfl, own, hno, hB, hxr⟩ := hrel
    have hsz := hB.size
    have hol : (offL t (a.l.take k)).length ≤ k := Nat.le_trans (off_length t _) (by simp; omega)
    obtain ⟨hp, hF, v, hb, hs⟩ := hc1
    obtain ⟨p0, p1, pf0, pf1⟩ := two_cells hb
    have hpl := hF p hp
    obtain ⟨x0, x1, x2, x3⟩ := four_cells hxr
    obtain ⟨xf0, xf1, xf2, xf3⟩ := four_frozen hxr
    have hxlt := (Array.getElem?_eq_some_iff.1 hxr).1
    by_cases hlt : k < a.l.length
    · obtain ⟨y, hy, _⟩ := at_index a.l k hlt
      rcases hs with ⟨_, _, _, _, hnil⟩ | ⟨b, off, cap, rfl, hbF, hcs⟩
      · rw [hnil] at hlt
        simp at hlt
      · have hbl := hF b hbF.1
        obtain ⟨y0, y1, y2, y3⟩ := it_at (F := F) (w := wr) (hB.block b hbl) (hcs k y hy)
        have pr0 := ((bcell hB).1 p 0 hpl).trans p0
        have i0' : (0 : Int) ≤ (k : Int) := by omega
        have i1' : (k : Int) < (a.l.length : Int) := by omega
        have h1 := Lib.hid (off_next t a.l k y hy)
        have h2 := Lib.hid (has_next t a.l k y hy)
        have h3 := Lib.hid (last_next t a.l k y hy)
        have HX := Lib.hid hxr
        clear hb hx hcs hy p0 p1 pf0 pf1 hxr
        generalize hL : offL t (a.l.take k) = L at *
        generalize hH : hasL t (a.l.take k) = H at *
        generalize hM : lastL t (a.l.take k) = M at *
        clear hL hH hM
        have hxne : b ≠ w.heap.size + 1 + 1 := by omega
        have hpne : p ≠ w.heap.size + 1 + 1 := by omega
        by_cases ht : y.ticket = t
        · have e1 : offL t (a.l.take (k + 1)) = L := by rw [h1.out, if_pos ht]
          have e2 : hasL t (a.l.take (k + 1)) = true := by rw [h2.out]; simp [ht]
          have e3 : lastL t (a.l.take (k + 1)) = y := by rw [h3.out, if_pos ht]
          have E1 := Lib.hid e1
          have E2 := Lib.hid e2
          have E3 := Lib.hid e3
          clear e1 e2 e3
          go_wp2_with fail
          go_roundw
          case rel =>
            refine ⟨k + 1, by omega, by go_num, by rw [E2.out], ?_, hno, ?_, ?_⟩
            · rw [E1.out]
              exact own.kept (it_grown _ (w.heap.size + 1 + 1) _ _ _ _) (.inr hno)
            · exact Below.setCell (Below.setCell (Below.setCell (Below.setCell hB (by simp; omega) _) (by simp; omega) _) (by simp; omega) _) (by simp; omega) _
            · rw [E3.out]
              have := it_sets (.int .i64 y.at_) (.int .i64 y.kind) (.string (bs y.data)) (.int .i64 y.ticket) HX.out
              rw [ht] at this ⊢
              exact this
          case measure => simp [intOf]; omega
        · have e1 : offL t (a.l.take (k + 1)) = L ++ [y] := by rw [h1.out, if_neg ht]
          have e2 : hasL t (a.l.take (k + 1)) = H := by rw [h2.out]; simp [ht]
          have e3 : lastL t (a.l.take (k + 1)) = M := by rw [h3.out, if_neg ht]
          have E1 := Lib.hid e1
          have E2 := Lib.hid e2
          have E3 := Lib.hid e3
          clear e1 e2 e3
          go_wp2_with (at_builtin; refine wpList_append_own_at _ rfl _ _ 28 rfl w1.heap.size 42 i0 _ 4 40 Try.underlying28 hi0 hz0 hz1 hz2 rfl (by decide) _ _ _ rfl (own.alloc _) ⟨wr.heap.size, 0, none⟩ 1 1 [.int .i64 y.at_, .int .i64 y.kind, .string (bs y.data), .int .i64 y.ticket] rfl rfl (it_row _ _ _) (itE_one y) (by unfold maxLen; omega) (by omega) (by simp; omega) ?_; intro v6 w6 own6 g6 _ at6; have own6' : w6.ownsRow w1.heap.size 42 4 v6 (L ++ [y]).length ((L ++ [y]).flatMap itE) := (by rw [it_snoc] at own6; simpa using own6); have B6 := (hB.alloc hsz (.cells #[.int .i64 y.at_, .int .i64 y.kind, .string (bs y.data), .int .i64 y.ticket] 42)).grown g6 (by simp; omega) (fun j hj => (own.lt j hj).1); have zz6 := B6.size)
          go_roundw
          case rel =>
            refine ⟨k + 1, by omega, by go_num, by rw [E2.out], by rw [E1.out]; exact own6', ?_, B6, ?_⟩
            · rcases at6 with e | e
              · rw [e]; exact hno
              · rw [e]
                simp
                omega
            · rw [E3.out]
              rw [g6.5 _ (by simp; omega) (fun e => hno e.symm), heap_alloc_old _ _ hxlt]
              exact HX.out
          case measure => simp [intOf]; omega
    · obtain rfl : k = a.l.length := by omega
      have pr0 := ((bcell hB).1 p 0 hpl).trans p0
      have pf := ((bcell hB).2 p 0 hpl).trans pf0
      have HB1 := Lib.hid hA
      obtain ⟨vx, vc, rfl⟩ := hs.slice
      have P0 := Lib.hid p0
      have PF0 := Lib.hid pf0
      rw [List.take_length] at own hxr x0 x1 x2 x3 ⊢
      clear hs p0 p1 pf0 pf1 hb
      have own0 := own
      clear own
      have hrr := (hB.block w.heap.size (by omega)).trans hx
      obtain ⟨r0, r1, r2, r3⟩ := four_cells hrr
      obtain ⟨rf0, rf1, rf2, rf3⟩ := four_frozen hrr
      have hpr : p ≠ w.heap.size := by
        have := HC.out.lt p hp
        omega
      have hpr' : w.heap.size ≠ p := fun e => hpr e.symm
      have hfin := pick_fin (.int .i64 (lastL t a.l).at_) (.int .i64 (lastL t a.l).kind) (.string (bs (lastL t a.l).data)) (.int .i64 (lastL t a.l).ticket) hrr HC.out HB1.out hs1 hB own0
      obtain ⟨hf1, hf2, hf3⟩ := hfin
      have Hq := Lib.hid hf3
      clear hxr hx hrr hf3
      rcases own0.2 with ⟨rfl, _⟩ | ⟨gg, gc, cur, rfl, _⟩
      all_goals
        go_wp2_with fail
        clear x0 x1 x2 x3 r0 r1 r2 r3
        generalize World.setCell (World.setCell (World.setCell (World.setCell (World.setCell wr ⟨p, 0, none⟩ _) _ _) _ _) _ _) _ _ = W at *
        obtain ⟨q0, q1, q2, q3⟩ := four_cells Hq.out
        exact bodyPost_ret (v := .tuple #[.agg #[.int .i64 (lastL t a.l).at_, .int .i64 (lastL t a.l).kind, .string (bs (lastL t a.l).data), .int .i64 (lastL t a.l).ticket], .bool (hasL t a.l)]) (by simp [results, Try.results36, go_sem, q0, q1, q2, q3]) rfl ⟨rfl, hf1, hf2⟩
end Go.Proofs.Ytcnfidfpgohpoaa.W
