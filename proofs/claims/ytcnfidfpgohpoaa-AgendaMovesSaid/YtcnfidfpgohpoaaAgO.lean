/- The code's agenda, walked: List, Double. -/
import Derived.Test.YtcnfidfpgohpoaaAgN
import Derived.Test.YtcnfidfpgohpoaaAgLay
import Derived.Lib.SliceRun
import Derived.Shelf.SlSortCmp.NoneTotal
import Derived.Laws.AppendOwn
namespace Go.Proofs.Ytcnfidfpgohpoaa.W
open Go.RowKit Go.Sort
set_option linter.unusedVariables false
set_option linter.unusedSimpArgs false
theorem itE_all (l : List It) : ∀ u ∈ l.flatMap itE, u.oneCell' = true := by
  intro u hu
  obtain ⟨x, _, hx⟩ := List.mem_flatMap.1 hu
  exact itE_one x u hx
set_option maxRecDepth 100000 in
set_option maxHeartbeats 3200000 in
theorem gclone_any (l : List It) (hl : l.length ≤ 100000) (v : Value) (w : World) (r : w.ownsRow 0 39 4 v l.length (l.flatMap itE)) :
    Calls Try.prog 28 #[v] w fun e w' => ∃ v', e = .returned v' ∧ w'.ownsRow w.heap.size 39 4 v' l.length (l.flatMap itE) ∧ Below w.heap.size w w' := by
  obtain ⟨i0, hi0, hz0, hz1, hz2⟩ := info_parts info_ItC
  rcases r.2 with ⟨rfl, h0⟩ | ⟨g, cap, cur, rfl, _, hg, _⟩
  · clear r
    obtain rfl : l = [] := List.eq_nil_of_length_eq_zero h0
    have e0 := fun w => Lib.run_eql_slice_nil (P := Try.prog) w 36 39 none 0 0 0 0 Try.underlying36
    go_enter Try.func28, Try.ntmps28
    go_wp2
    go_ret
    exact ⟨_, rfl, World.ownsRow_nil _ _ _ _, Below.refl _ _⟩
  · have hsrc : ∀ j u, (l.flatMap itE)[j]? = some u → (w.alloc (.cells #[] 39)).cell? ((⟨g, 0, none⟩ : Addr).add j) = some u := fun j u hu => by
      have := r.cells (g := g) rfl j u hu
      rw [Addr.add_lit] at this ⊢
      exact (cell_same (Below.heap_alloc w _ g (Array.getElem?_eq_some_iff.1 hg).1) _).trans this
    clear r hg
    have own0 : (w.alloc (.cells #[] 39)).ownsRow w.heap.size 39 4 (.slice (some ⟨w.heap.size, 0, none⟩) 0 0) 0 [] :=
      ⟨by simp, .inr ⟨w.heap.size, 0, #[], rfl, Nat.le_refl _, heap_alloc_new _ _, Nat.le_refl _, by unfold maxLen; omega, by simp, by simp⟩⟩
    have e0 := fun w => Lib.run_eql_slice_nil (P := Try.prog) w 36 39 (some ⟨g, 0, none⟩) l.length cap 0 0 Try.underlying36
    go_enter Try.func28, Try.ntmps28
    go_wp2_with (at_builtin; refine wpList_append_own _ rfl _ _ 36 rfl w.heap.size 39 i0 _ 4 40 Try.underlying36 hi0 hz0 hz1 hz2 rfl (by decide) _ _ _ rfl own0 ⟨g, 0, none⟩ l.length _ (l.flatMap itE) rfl (flat_len4 l) hsrc (itE_all l) (by unfold maxLen; omega) (by omega) (by rw [World.size_alloc]; omega) ?_; intro v6 w6 own6 g6 _; rw [Nat.zero_add, List.nil_append] at own6)
    go_ret
    exact ⟨_, rfl, own6, ((Below.refl _ _).alloc (Nat.le_refl _) _).grown g6 (by simp) (fun g hg => (own0.lt g hg).1)⟩
instance : Inhabited It := ⟨itZero⟩
theorem lt_ord (x y : It) : Go.Proofs.ltOf ordI x y = ahead x y := by
  unfold Go.Proofs.ltOf
  exact ord_ahead x y
theorem swo_ord : SWO (Go.Proofs.ltOf ordI) where
  irrefl x := by
    rw [lt_ord, Bool.eq_false_iff, Ne, ahead_iff]
    omega
  trans x y z h1 h2 := by
    rw [lt_ord] at *
    exact ahead_trans h1 h2
  ntrans x y z h1 h2 := by
    rw [lt_ord, Bool.eq_false_iff, Ne, ahead_iff] at *
    omega
theorem cmp_lays (blk off size : Nat) (w : World) : Go.Proofs.CmpLays Try.prog 31 #[] itE 4 ordI blk off size w := fun _ _ _ _ x y => gorder_any x y _
theorem goes_order (args : Array Value) (w : World) : (callFunc 31 args).run Try.prog w = .ok (.enter 31 args) w := by kernel_rfl
theorem flat_get (l : List It) (t : Nat) (ht : t < l.length * 4) : (l.flatMap itE)[t]? = some ((itE (l.toArray)[t / 4]!)[t % 4]!) := by
  have h1 : t / 4 < l.length := by omega
  have h2 : t % 4 < 4 := by omega
  have hx : l[t / 4]? = some l[t / 4] := List.getElem?_eq_getElem h1
  have e1 : (l.toArray)[t / 4]! = l[t / 4] := by simp [h1]
  rw [e1]
  have hu : (itE l[t / 4])[t % 4]? = some ((itE l[t / 4])[t % 4]!) := by
    rw [List.getElem!_eq_getElem?_getD, List.getElem?_eq_getElem (by rw [itE_length]; exact h2)]
    rfl
  have := flat_at 4 itE itE_length l (t / 4) _ hx (t % 4) _ hu
  rw [show t / 4 * 4 + t % 4 = t by omega] at this
  exact this
theorem row_holds {w : World} {base g cap : Nat} {l : List It} (r : w.ownsRow base 39 4 (.slice (some ⟨g, 0, none⟩) l.length cap) l.length (l.flatMap itE)) : HoldsK itE 4 w g 0 l.toArray := by
  intro t ht
  have ht' : t < l.length * 4 := by simpa using ht
  have c := World.ownsRow.cellAt r t ht'
  rw [flat_get l t ht'] at c
  refine ⟨?_, ?_⟩
  · rw [Nat.zero_add, c, get_flatK itE 4 _ t (by simpa using ht')]
    rfl
  · rw [Nat.zero_add]
    exact World.ownsRow.frozenAt r t
theorem touch_sort {w : World} {g n : Nat} {os : Array Obj} (d : Array It) : Touch (fun k => k = g) w (Go.Proofs.sortWorldK itE 4 w g 0 n d os) := by
  refine ⟨rfl, rfl, rfl, by simp [Go.Proofs.sortWorldK, putRowK], fun k hk hne => ?_⟩
  unfold Go.Proofs.sortWorldK putRowK
  rw [heap_grow_old _ _ (by simpa using hk)]
  have : g ≠ k := fun e => hne e.symm
  simp [putRow, mapBlock, Sort.ahead, Array.getElem?_modify, this]
theorem gsort_any (l : List It) (hl : l.length ≤ 100000) {base g cap : Nat} (w : World) (r : w.ownsRow base 39 4 (.slice (some ⟨g, 0, none⟩) l.length cap) l.length (l.flatMap itE)) (hu : Uniq l) :
    Calls Try.prog 30 #[.slice (some ⟨g, 0, none⟩) l.length cap, .func (.func 31) #[] #[]] w fun e w' =>
      e = .returned (.tuple #[]) ∧ ∃ l' : List It, l'.Perm l ∧ (l'.Pairwise fun x y => ahead x y = true) ∧ SlAt (fun b => b = g) 4 itE w' (.slice (some ⟨g, 0, none⟩) l'.length cap) l' ∧ Touch (fun k => k = g) w w' := by
  have hH := row_holds r
  have hblk := (r.lt g rfl).2
  have h := Go.Proofs.AnyQ.slices_SortFunc sortIt 4 Try.isAgg39 Try.sizeOf39 itE itE_length itE_one ordI swo_ord 31 #[] g 0 cap l.toArray w goes_order (cmp_lays g 0 _ w) hH hblk (by simp; omega)
  refine Calls.mono (show Calls Try.prog 30 #[.slice (some ⟨g, 0, none⟩) l.length cap, .func (.func 31) #[] #[]] w _ from h) ?_
  rintro e w' ⟨he, d', n, os, hp, hs, rfl⟩
  have hsz : d'.size = l.length := by have := hp.1; simpa using this
  have hperm : d'.toList.Perm l := by
    have := hp.2.2
    simp only [List.size_toArray] at this
    rw [show d'.extract 0 l.length = d' by rw [← hsz]; simp, show l.toArray.extract 0 l.length = l.toArray by simp] at this
    exact this
  refine ⟨he, d'.toList, hperm, ?_, .inr ⟨g, 0, cap, by simp, rfl, fun i x hx j u hu => ?_⟩, touch_sort d'⟩
  · have hu' : Uniq d'.toList := hu.perm hperm
    rw [List.pairwise_iff_getElem]
    intro i j hi hj hlt
    have hi' : i < d'.size := by simpa using hi
    have hj' : j < d'.size := by simpa using hj
    have := hs i j (Nat.zero_le _) hlt (by simp; omega)
    rw [lt_ord] at this
    rw [getElem!_pos d' i hi', getElem!_pos d' j hj'] at this
    have hne : d'.toList[j].ticket ≠ d'.toList[i].ticket := fun e => by
      have := hu'.at_ (i := j) (j := i) (List.getElem?_eq_getElem hj) (List.getElem?_eq_getElem hi) e
      omega
    exact ahead_total (x := d'.toList[j]) (y := d'.toList[i]) (by simpa using this) hne
  · have hW : Go.Proofs.SWK itE 4 w g 0 d' (Go.Proofs.sortWorldK itE 4 w g 0 n d' os) := ⟨n, os, rfl⟩
    have hh := hW.holds hblk hH (by simpa using hsz)
    obtain ⟨li, rfl⟩ := List.getElem?_eq_some_iff.1 hx
    have li' : i < d'.size := by simpa using li
    have lj : j < 4 := by have := (List.getElem?_eq_some_iff.1 hu).1; rw [itE_length] at this; exact this
    have c := (hh.cell li' lj).1
    rw [c, getElem!_pos d' i li']
    rw [List.getElem!_eq_getElem?_getD]
    have : (itE d'[i])[j]? = some u := by simpa using hu
    rw [this]
    rfl
set_option maxRecDepth 100000 in
set_option maxHeartbeats 3200000 in
theorem gsort_none (p : Option Addr) (cap : Nat) (w : World) :
    Calls Try.prog 30 #[.slice p 0 cap, .func (.func 31) #[] #[]] w fun e w' => e = .returned (.tuple #[]) ∧ w' = w :=
  Go.Proofs.AnyF.slices_SortFunc_none { sortIt with } p cap _ w
set_option maxRecDepth 100000 in
set_option maxHeartbeats 3200000 in
theorem glist_any {F : Nat → Prop} {p : Nat} {a : Ag} (ok : a.Ok) (n1 : a.n ≤ 1000000) (w : World) (hc : AgIn F w p a) :
    Calls Try.prog 14 #[.pointer (some ⟨p, 0, none⟩)] w fun e w' => ∃ v, e = .returned v ∧ SlAt (fun b => w.heap.size ≤ b ∧ b < w'.heap.size) 4 itE w' v a.l ∧ Below w.heap.size w w' := by
  obtain ⟨h1, h2, hb, v, m, h, h3, h4, h5, h6, h7, h8, h9, hp, hH⟩ := hc
  obtain ⟨q0, _⟩ := one_cell h3
  have cg := gheap_any w q0
  obtain ⟨b0, _, _, _, _, _⟩ := three_cells h4.blk
  have cc := gclone_any h h4.len v w h4.row
  have P := Lib.hid (And.intro h4 hp)
  clear h1 h2 h3 h4 h5 h6 h7 h8 h9 hp hH
  go_enter Try.func14, Try.ntmps14
  go_wp2_with fail
  (with_reducible refine cg.mono ?_)
  rintro e w1 ⟨rfl, rfl⟩
  go_wp2_with fail
  (with_reducible refine cc.mono ?_)
  rintro e w2 ⟨v2, rfl, hr2, hB2⟩
  obtain ⟨h4, hp⟩ := P.out
  have hperm := hp
  rcases Joins.ownsRow_forms hr2 with ⟨rfl, hn⟩ | ⟨g, cap, rfl⟩
  · have cs := gsort_none none 0 w2
    have hnil : h = [] := List.eq_nil_of_length_eq_zero hn
    have hal : a.l = [] := by
      have := hp.length_eq
      rw [hn] at this
      exact List.eq_nil_of_length_eq_zero this.symm
    have E := Lib.hid (And.intro hB2 hal)
    clear hr2 hB2 h4 hp hperm hn hnil hal cc
    go_wp2_with fail
    (with_reducible refine cs.mono ?_)
    rintro e w3 ⟨rfl, rfl⟩
    go_wp2_with fail
    go_ret
    rw [E.out.2]
    exact ⟨_, rfl, .inl ⟨none, 0, rfl, fun _ => rfl, rfl⟩, E.out.1⟩
  · have cs := gsort_any h h4.len w2 hr2 h4.uniq
    obtain ⟨hg1, hg2⟩ := hr2.lt g rfl
    have E := Lib.hid (And.intro hB2 (And.intro hg1 hg2))
    clear hr2 hB2 h4 hp hg1 hg2 cc
    go_wp2_with fail
    (with_reducible refine cs.mono ?_)
    rintro e w3 ⟨rfl, l', hl1, hl2, hl3, hl4⟩
    have D := Lib.hid (And.intro hl1 (And.intro hl2 (And.intro hl3 hl4)))
    clear hl1 hl2 hl3 hl4 cs
    go_wp2_with fail
    go_ret
    obtain ⟨hl1, hl2, hl3, hl4⟩ := D.out
    obtain ⟨hB2, hg1, hg2⟩ := E.out
    have e1 : l' = a.l := order_unique hl2 ok.order (hl1.trans hperm)
    subst e1
    rw [hl1.length_eq] at hl3
    refine ⟨_, rfl, ?_, hl4.below hB2 hB2.size (fun k hk => by rw [hk]; exact hg1)⟩
    have := hl4.size
    exact hl3.mono (fun k hk => by rw [hk]; exact ⟨hg1, by omega⟩)
set_option maxRecDepth 100000 in
set_option maxHeartbeats 3200000 in
theorem gdbl_any {F : Nat → Prop} {p : Nat} {a : Ag} (ok : a.Ok) (n1 : a.n ≤ 1000000) (t at_ : Int) (t0 : -9223372036854775808 ≤ t) (t1 : t ≤ 9223372036854775807) (k0 : -9223372036854775808 ≤ at_) (k1 : at_ ≤ 9223372036854775807) (w : World) (hc : AgIn F w p a) :
    Calls Try.prog 21 #[.pointer (some ⟨p, 0, none⟩), .int .i64 t, .int .i64 at_] w fun e w' => e = .returned (.tuple #[.int .i64 (dblN a t at_), .int .i64 (dblE a t at_)]) ∧ AgIn (Gr F w w') w' p (dblS a t at_) ∧ Touch F w w' := by
  have HC := Lib.hid hc
  obtain ⟨h1, h2, hb, v, m, h, h3, h4, h5, h6, h7, h8, h9, hp, hH⟩ := hc
  obtain ⟨q0, q1⟩ := one_cell h3
  have cg := gheap_any w q0
  obtain ⟨b0, b1, _, _, _, _⟩ := three_cells h4.blk
  obtain ⟨i, hrun, hi⟩ := place_look h4 t t0 t1
  rw [has_perm hp] at hrun
  unfold dblN dblE dblS
  cases hh : hasL t a.l
  · rw [hh] at hrun
    have fin : AgIn (Gr F w w) w p a ∧ Touch F w w := ⟨HC.out.mono (fun k hk => .inl hk) (gr_lt h2 (Nat.le_refl _)), Touch.refl _ _⟩
    have FI := Lib.hid fin
    have hf : findL t a.l = none := by
      cases hf : findL t a.l with
      | none => rfl
      | some x =>
        have hx := List.mem_of_find?_eq_some hf
        have ht : x.ticket = t := by have := List.find?_some hf; simpa using this
        have : hasL t a.l = true := by unfold hasL; rw [List.any_eq_true]; exact ⟨x, hx, by simp [ht]⟩
        rw [hh] at this
        cases this
    rw [hf]
    simp only []
    clear fin h1 h2 h3 h4 h5 h6 h7 h8 h9 hp hH hf
    go_enter Try.func21, Try.ntmps21
    go_wp2_with fail
    (with_reducible refine cg.mono ?_)
    rintro e w1 ⟨rfl, rfl⟩
    go_wp2_with fail
    go_ret2
    exact ⟨rfl, FI.out⟩
  · rw [hh] at hrun
    obtain ⟨k, x, hk, ht⟩ := has_at (h := h) (t := t) (by rw [has_perm hp]; exact hh)
    obtain rfl := hi k x hk ht
    have hx : x ∈ a.l := hp.mem_iff.1 (List.mem_of_getElem? hk)
    have hf := find_uniq ok hx
    rw [ht] at hf
    rw [hf]
    simp only []
    have lk := (List.getElem?_eq_some_iff.1 hk).1
    obtain ⟨g, cap, rfl⟩ := h4.at_ (by omega)
    obtain ⟨a0, a1, a2, a3⟩ := row_cells h4.row hk
    have lk' : (k : Int) < (h.length : Int) := by omega
    have i0 : (0 : Int) ≤ (k : Int) := by omega
    have hg := ok.given x hx
    have hB : Below w.heap.size w (w.alloc (.cells #[.int .i64 x.at_, .int .i64 x.kind, .string (bs x.data), .int .i64 x.ticket] 39)) := (Below.refl _ _).alloc (Nat.le_refl _) _
    have hs1 : (w.alloc (.cells #[.int .i64 x.at_, .int .i64 x.kind, .string (bs x.data), .int .i64 x.ticket] 39)).heap.size = w.heap.size + 1 := World.size_alloc _ _
    have cp := gput_any ok n1 at_ x.kind x.data k0 k1 (by omega) (by omega) (by unfold maxLen; omega) _ (HC.out.below hB)
    have B := Lib.hid (And.intro hB h2)
    clear h1 h2 h3 h4 h5 h6 h7 h8 h9 hp hH hf hk hi ht hB hg hx
    generalize putN a at_ x.kind x.data = pn at *
    generalize putE a at_ x.kind x.data = pe at *
    generalize putS a at_ x.kind x.data = ps at *
    go_enter Try.func21, Try.ntmps21
    go_wp2_with fail
    (with_reducible refine cg.mono ?_)
    rintro e w1 ⟨rfl, rfl⟩
    go_wp2_with fail
    (with_reducible refine cp.mono ?_)
    rintro e w2 ⟨rfl, hA, hT⟩
    have E := Lib.hid (And.intro hA hT)
    clear hA hT cp
    go_wp2_with fail
    go_ret2
    have hT := (Touch.of_below F B.out.1).same E.out.2
    exact ⟨rfl, E.out.1.mono (fun k hk => by
      rcases hk with hk | hk
      · exact .inl hk
      · exact .inr (by rw [hs1] at hk; omega)) (gr_lt B.out.2 hT.size), hT⟩
end Go.Proofs.Ytcnfidfpgohpoaa.W
