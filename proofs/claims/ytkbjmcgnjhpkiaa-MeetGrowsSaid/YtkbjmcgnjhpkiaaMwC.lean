/- Layer 16's own code, walked: all edges, in order. -/
import Derived.Test.YtkbjmcgnjhpkiaaMwD
import Derived.Test.YtkbjmcgnjhpkiaaMwLay
import Derived.Lib.SliceRun
import Derived.Shelf.SlSortCmp.NoneTotal
import Derived.Laws.AppendOwn
import Derived.Laws.OwnMore
import Derived.WalkLawsBesides
import Derived.WalkSpells
import Derived.Handy
namespace Go.Proofs.Ytkbjmcgnjhpkiaa.W
open Go.RowKit Go.Sort
set_option linter.unusedVariables false
set_option linter.unusedSimpArgs false
theorem ord_le (a b : Eg) : ordE a b < 0 ↔ Eg.le a b ∧ a ≠ b := by
  have hne : a ≠ b ↔ ¬ (a.at_ = b.at_ ∧ a.sd = b.sd) := ⟨fun h g => h (Eg.ext' g.1 g.2), fun h e => h (e ▸ ⟨rfl, rfl⟩)⟩
  rw [hne]
  unfold ordE orM cmpM Eg.le
  repeat' split
  all_goals omega
theorem lt_edge (x y : Eg) : Go.Proofs.ltOf ordE x y = true ↔ x.at_ < y.at_ ∨ (x.at_ = y.at_ ∧ x.sd < y.sd) := by
  unfold Go.Proofs.ltOf
  rw [decide_eq_true_iff]
  unfold ordE orM cmpM
  repeat' split
  all_goals omega
theorem swo_edge : SWO (Go.Proofs.ltOf ordE) where
  irrefl x := by
    rw [Bool.eq_false_iff, Ne, lt_edge]
    omega
  trans x y z h1 h2 := by
    rw [lt_edge] at *
    omega
  ntrans x y z h1 h2 := by
    rw [Bool.eq_false_iff, Ne, lt_edge] at *
    omega
theorem egE_length (e : Eg) : (egE e).length = 2 := rfl
theorem egE_one (e : Eg) : ∀ u ∈ egE e, u.oneCell' = true := by
  intro u hu
  simp only [egE, List.mem_cons, List.not_mem_nil, or_false] at hu
  rcases hu with rfl | rfl <;> rfl
theorem cmp_lays16 (blk off size : Nat) (w : World) : Go.Proofs.CmpLays Try.prog 32 #[] egE 2 ordE blk off size w := fun _ _ _ _ x y => mcompare_any x y _
theorem goes_compare (args : Array Value) (w : World) : (callFunc 32 args).run Try.prog w = .ok (.enter 32 args) w := by kernel_rfl
theorem eg_get (l : List Eg) (t : Nat) (ht : t < l.length * 2) : (l.flatMap egE)[t]? = some ((egE (l.toArray)[t / 2]!)[t % 2]!) := by
  have h1 : t / 2 < l.length := by omega
  have h2 : t % 2 < 2 := by omega
  have hx : l[t / 2]? = some l[t / 2] := List.getElem?_eq_getElem h1
  have e1 : (l.toArray)[t / 2]! = l[t / 2] := by simp [h1]
  rw [e1]
  have hu : (egE l[t / 2])[t % 2]? = some ((egE l[t / 2])[t % 2]!) := by
    rw [List.getElem!_eq_getElem?_getD, List.getElem?_eq_getElem (by rw [egE_length]; exact h2)]
    rfl
  have := flat_at 2 egE egE_length l (t / 2) _ hx (t % 2) _ hu
  rw [show t / 2 * 2 + t % 2 = t by omega] at this
  exact this
theorem eg_holds {w : World} {base g cap : Nat} {l : List Eg} (r : w.ownsRow base 65 2 (.slice (some ⟨g, 0, none⟩) l.length cap) l.length (l.flatMap egE)) : HoldsK egE 2 w g 0 l.toArray := by
  intro t ht
  have ht' : t < l.length * 2 := by simpa using ht
  have c := World.ownsRow.cellAt r t ht'
  rw [eg_get l t ht'] at c
  refine ⟨?_, ?_⟩
  · rw [Nat.zero_add, c, get_flatK egE 2 _ t (by simpa using ht')]
    rfl
  · rw [Nat.zero_add]
    exact World.ownsRow.frozenAt r t
theorem touch_sort16 {w : World} {g n : Nat} {os : Array Obj} (d : Array Eg) : Touch (fun k => k = g) w (Go.Proofs.sortWorldK egE 2 w g 0 n d os) := by
  refine ⟨rfl, rfl, rfl, by simp [Go.Proofs.sortWorldK, putRowK], fun k hk hne => ?_⟩
  unfold Go.Proofs.sortWorldK putRowK
  rw [heap_grow_old _ _ (by simpa using hk)]
  have : g ≠ k := fun e => hne e.symm
  simp [putRow, mapBlock, Sort.ahead, Array.getElem?_modify, this]
theorem le_of_not (x y : Eg) (h : Go.Proofs.ltOf ordE y x = false) : Eg.le x y := by
  rw [Bool.eq_false_iff, Ne, lt_edge] at h
  unfold Eg.le
  omega
theorem msort_any (l : List Eg) (hl : l.length ≤ 100000) {base g cap : Nat} (w : World) (r : w.ownsRow base 65 2 (.slice (some ⟨g, 0, none⟩) l.length cap) l.length (l.flatMap egE)) :
    Calls Try.prog 31 #[.slice (some ⟨g, 0, none⟩) l.length cap, .func (.func 32) #[] #[]] w fun e w' =>
      e = .returned (.tuple #[]) ∧ ∃ l' : List Eg, l'.Perm l ∧ l'.Pairwise Eg.le ∧ SlAt (fun b => b = g) 2 egE w' (.slice (some ⟨g, 0, none⟩) l'.length cap) l' ∧ Touch (fun k => k = g) w w' := by
  have hH := eg_holds r
  have hblk := (r.lt g rfl).2
  have h := Go.Proofs.AnyQ.slices_SortFunc sortEg 2 Try.isAgg65 Try.sizeOf65 egE egE_length egE_one ordE swo_edge 32 #[] g 0 cap l.toArray w goes_compare (cmp_lays16 g 0 _ w) hH hblk (by simp; omega)
  refine Calls.mono (show Calls Try.prog 31 #[.slice (some ⟨g, 0, none⟩) l.length cap, .func (.func 32) #[] #[]] w _ from h) ?_
  rintro e w' ⟨he, d', n, os, hp, hs, rfl⟩
  have hsz : d'.size = l.length := by have := hp.1; simpa using this
  have hperm : d'.toList.Perm l := by
    have := hp.2.2
    simp only [List.size_toArray] at this
    rw [show d'.extract 0 l.length = d' by rw [← hsz]; simp, show l.toArray.extract 0 l.length = l.toArray by simp] at this
    exact this
  refine ⟨he, d'.toList, hperm, ?_, .inr ⟨g, 0, cap, by simp, rfl, fun i x hx j u hu => ?_⟩, touch_sort16 d'⟩
  · rw [List.pairwise_iff_getElem]
    intro i j hi hj hlt
    have hi' : i < d'.size := by simpa using hi
    have hj' : j < d'.size := by simpa using hj
    have := hs i j (Nat.zero_le _) hlt (by simp; omega)
    rw [getElem!_pos d' i hi', getElem!_pos d' j hj'] at this
    exact le_of_not _ _ (by simpa using this)
  · have hW : Go.Proofs.SWK egE 2 w g 0 d' (Go.Proofs.sortWorldK egE 2 w g 0 n d' os) := ⟨n, os, rfl⟩
    have hh := hW.holds hblk hH (by simpa using hsz)
    obtain ⟨li, rfl⟩ := List.getElem?_eq_some_iff.1 hx
    have li' : i < d'.size := by simpa using li
    have lj : j < 2 := by have := (List.getElem?_eq_some_iff.1 hu).1; rw [egE_length] at this; exact this
    have c := (hh.cell li' lj).1
    rw [c, getElem!_pos d' i li']
    rw [List.getElem!_eq_getElem?_getD]
    have : (egE d'[i])[j]? = some u := by simpa using hu
    rw [this]
    rfl
set_option maxRecDepth 100000 in
set_option maxHeartbeats 3200000 in
theorem msort_none (p : Option Addr) (cap : Nat) (w : World) :
    Calls Try.prog 31 #[.slice p 0 cap, .func (.func 32) #[] #[]] w fun e w' => e = .returned (.tuple #[]) ∧ w' = w :=
  Go.Proofs.AnyF.slices_SortFunc_none { sortEg with } p cap _ w
theorem info_eg16 : (Try.prog.info? 65).map (fun i => (i.zero, i.size, i.bytes)) = some (some (.agg #[.int .i64 0, .int .i64 0]), 2, 16) := by kernel_rfl
theorem six_row (w : World) (a b c : Int) (t : TypeId) : ∀ j u, ((edgesOf ⟨a, b, c⟩).flatMap egE)[j]? = some u → (w.alloc (.cells #[.int .i64 a, .int .i64 (-1), .int .i64 b, .int .i64 0, .int .i64 c, .int .i64 1] t)).cell? ((⟨w.heap.size, 0, none⟩ : Addr).add j) = some u := by
  intro j u hu
  rw [Addr.add_lit, Nat.zero_add]
  simp only [World.cell?, heap_alloc_new]
  rw [← hu]
  have e' : ((edgesOf ⟨a, b, c⟩).flatMap egE) = [.int .i64 a, .int .i64 (-1), .int .i64 b, .int .i64 0, .int .i64 c, .int .i64 1] := rfl
  rw [e']
  simp
theorem cd_at16 {w : World} {b q : Nat} {c : Cd} (h : ∀ j u, (cdC c)[j]? = some u → w.cell? ⟨b, q + j, none⟩ = some u) :
    w.cell? ⟨b, q, none⟩ = some (.int .i64 c.lo) ∧ w.cell? ⟨b, q + 1, none⟩ = some (.int .i64 c.mid) ∧ w.cell? ⟨b, q + 2, none⟩ = some (.int .i64 c.hi) := ⟨h 0 _ rfl, h 1 _ rfl, h 2 _ rfl⟩
set_option maxRecDepth 100000 in
set_option maxHeartbeats 6400000 in
theorem medges_any (l : List Cd) (hl : l.length ≤ 1000) {F : Nat → Prop} {v : Value} (w : World) (hs : SlAt F 3 cdC w v l) (hF : ∀ b, F b → b < w.heap.size) :
    Calls Try.prog 22 #[v] w fun e w' => ∃ u E, e = .returned u ∧ IsEdges l E ∧ SlAt (fun b => w.heap.size ≤ b ∧ b < w'.heap.size) 2 egE w' u E ∧ Below w.heap.size w w' := by
  obtain ⟨i0, hi0, hz0, hz1, hz2⟩ := info_parts info_eg16
  have HS := Lib.hid hs
  obtain ⟨vx, vc, rfl⟩ := hs.slice
  have ownS : w.ownsRow w.heap.size 65 2 (.slice none 0 0) 0 [] := World.ownsRow_nil _ _ _ _
  have hR := Below.refl w.heap.size w
  clear hs
  go_enter Try.func22, Try.ntmps22
  go_wp2_with fail
  go_loopw [3, 8] (fun o i wr => ∃ n : Nat, n ≤ l.length ∧ i = .int .i64 (n : Int) ∧ wr.ownsRow w.heap.size 65 2 o (n * 3) ((allE (l.take n)).flatMap egE) ∧ Below w.heap.size w wr) (fun _ i _ => l.length - (intOf i).toNat)
  case atStart => exact ⟨0, Nat.zero_le _, rfl, by rw [List.take_zero]; exact ownS, hR⟩
  case round =>
    obtain ⟨n, hn, rfl, own, hB⟩ := hrel
    clear ownS hR
    have z1 := hB.size
    by_cases hlt : n < l.length
    · obtain ⟨s, hsn⟩ : ∃ s, l[n]? = some s := ⟨_, List.getElem?_eq_getElem hlt⟩
      have i1 : (n : Int) < l.length := by omega
      have i0' : (0 : Int) ≤ (n : Int) := by omega
      rcases HS.out with ⟨_, _, _, _, hnil⟩ | ⟨b, off, cap', hvv, hbF, hcs⟩
      · rw [hnil] at hlt
        simp at hlt
      have hsxx : vx = some ⟨b, off, none⟩ := (Value.slice.inj hvv).1
      subst hsxx
      have lb := hF b hbF
      obtain ⟨x0, x1, x2⟩ := cd_at16 (w := wr) (b := b) (q := off + n * 3) (c := s) (fun j u hu => by
        rw [hB.cell lb]
        exact hcs n s hsn j u hu)
      have htk : (allE (l.take (n + 1))).flatMap egE = (allE (l.take n)).flatMap egE ++ (edgesOf s).flatMap egE := by
        obtain ⟨h1, rfl⟩ := List.getElem?_eq_some_iff.1 hsn
        rw [List.take_succ_eq_append_getElem h1, allE_snoc, List.flatMap_append]
      have TK := Lib.hid htk
      clear htk hcs hvv
      have hB1 := hB.alloc z1 (.cells #[.int .i64 s.lo, .int .i64 s.mid, .int .i64 s.hi] 41)
      go_wp2_with (at_builtin; refine wpList_append_own _ rfl _ _ 55 rfl w.heap.size 65 i0 _ 2 16 Try.underlying55 hi0 hz0 hz1 hz2 rfl (by decide) _ _ _ rfl ((own.alloc _).alloc _) ⟨wr.heap.size + 1, 0, none⟩ 3 3 ((edgesOf s).flatMap egE) rfl rfl (by have := six_row (wr.alloc (.cells #[.int .i64 s.lo, .int .i64 s.mid, .int .i64 s.hi] 41)) s.lo s.mid s.hi 65; rw [World.size_alloc] at this; exact this) (by intro u hu; obtain ⟨x, _, hx⟩ := List.mem_flatMap.1 hu; exact egE_one x u hx) (by unfold maxLen; omega) (by omega) (by simp only [World.size_alloc]; omega) ?_; intro v4 w4 hown4 hgrow4 _; have own4 : w4.ownsRow w.heap.size 65 2 v4 ((n + 1) * 3) ((allE (l.take (n + 1))).flatMap egE) := (by rw [TK.out]; simpa [Nat.succ_mul] using hown4); have B4 := (hB1.alloc (by rw [World.size_alloc]; omega) (.cells #[.int .i64 s.lo, .int .i64 (-1), .int .i64 s.mid, .int .i64 0, .int .i64 s.hi, .int .i64 1] 65)).grown hgrow4 (by simp only [World.size_alloc]; omega) (fun g hg => by have := (own.lt g hg).1; omega); have z4 := B4.size)
      go_roundw
      case rel => exact ⟨n + 1, by omega, by go_num, own4, B4⟩
      case measure => simp [intOf]; omega
    · have enl : n = l.length := by omega
      subst enl
      rw [List.take_length] at own
      have hB0 := hB
      have OW := Lib.hid own
      have BB := Lib.hid hB
      rcases Joins.ownsRow_forms own with ⟨rfl, hn0⟩ | ⟨g, cap, rfl⟩
      · have cs := msort_none none 0 wr
        have hl0 : l = [] := List.eq_nil_of_length_eq_zero (by omega)
        have HL := Lib.hid hl0
        clear own hB hB0 hl0
        go_wp2_with fail
        (with_reducible refine cs.mono ?_)
        rintro e w3 ⟨rfl, rfl⟩
        go_wp2_with fail
        go_ret
        refine ⟨_, [], rfl, ?_, .inl ⟨none, 0, rfl, fun _ => rfl, rfl⟩, BB.out⟩
        rw [HL.out]
        exact ⟨List.Perm.refl _, List.Pairwise.nil⟩
      · have hlen := allE_length l
        rw [← hlen] at own
        have cs := msort_any (allE l) (by omega) wr own
        obtain ⟨hg1, hg2⟩ := own.lt g rfl
        rw [hlen] at cs
        have HG := Lib.hid (And.intro hg1 hg2)
        clear own hB hB0 hg1 hg2
        go_wp2_with fail
        (with_reducible refine cs.mono ?_)
        rintro e w3 ⟨rfl, l', hl1, hl2, hl3, hl4⟩
        have D := Lib.hid (And.intro hl1 (And.intro hl2 (And.intro hl3 hl4)))
        clear hl1 hl2 hl3 hl4 cs
        go_wp2_with fail
        go_ret
        obtain ⟨hl1, hl2, hl3, hl4⟩ := D.out
        obtain ⟨hg1, hg2⟩ := HG.out
        rw [hl1.length_eq, hlen] at hl3
        have := hl4.size
        exact ⟨_, l', rfl, ⟨hl1, hl2⟩, hl3.mono (fun k hk => by rw [hk]; exact ⟨hg1, by omega⟩), hl4.below BB.out BB.out.size (fun k hk => by rw [hk]; exact hg1)⟩
end Go.Proofs.Ytkbjmcgnjhpkiaa.W
