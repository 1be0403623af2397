/- Layer 16's laws: candidates that came in, opened; the document's Check; that two of three meet. -/
import Derived.Test.YtkbjmcgnjhpkiaaMtX
import Derived.Test.YtkbjmcgnjhpkiaaRows
import Derived.Test.YtkbjmcgnjhpkiaaQtB
import Derived.Test.YtkbjmcgnjhpkiaaWdefs
import Derived.ChangeArms
import Derived.WalkSpells
import Derived.WalkLawsBesides
import Derived.Deep.DeepCutAuto
import Derived.Deep.AppendLies
import Derived.Laws.OwnMore
import Derived.OpenShut
import Derived.ChangeOld
import Derived.ShutString
import Derived.WideShapes
import Derived.Handy
import Derived.WalkKit
import Derived.Lib.Hide
import Derived.Maps.AppendAt
import Derived.BigQuiet
import Derived.Lib.QuietBelow
namespace Go.Proofs.Ytkbjmcgnjhpkiaa.W
open Go.RowKit Go.Sort Go.ChangeShapes Go.WideShapes Go.ChangeMaps
set_option linter.unusedVariables false
set_option linter.unusedSimpArgs false
theorem cdC_length (c : Cd) : (cdC c).length = 3 := rfl
set_option maxRecDepth 100000 in
theorem open_cds {H : Type} {enc : TypeId × Value → H} {w : World} {base : Nat} {spare : Nat → Bool} {held : Bool} {fuel : Nat} {cs : List Value} {x : DataW H × List MemPlace}
    (h : DataW.trod enc Try.prog w base spare held fuel 22 cs = some x) :
    ∃ (v : Value) (l : List Cd), cs = [v] ∧ SlAt (fun b => b < w.heap.size) 3 cdC w v l ∧ (∀ f ∈ l, f.Typed) ∧ l.length ≤ maxLen := by
  refine open_sl Try.underlying22 3 (by kernel_rfl) (by decide) cdC cdC_length Cd.Typed ?_ h
  intro n cs' y hy hl
  obtain ⟨xs, m, _, _, _, hlen, hf⟩ := DataW.trod_struct Try.underlying41 hy
  match xs, hlen with
  | [y0, y1, y2], _ =>
    have g0 := hf 0 _ rfl
    have g1 := hf 1 _ rfl
    have g2 := hf 2 _ rfl
    match cs', hl with
    | [c0, c1, c2], _ =>
      obtain ⟨k0, e0, _, h0⟩ := DataW.trod_int Try.underlying2 (show DataW.trod _ Try.prog w base spare held m 2 [c0] = _ from g0)
      obtain ⟨k1, e1, _, h1⟩ := DataW.trod_int Try.underlying2 (show DataW.trod _ Try.prog w base spare held m 2 [c1] = _ from g1)
      obtain ⟨k2, e2, _, h2⟩ := DataW.trod_int Try.underlying2 (show DataW.trod _ Try.prog w base spare held m 2 [c2] = _ from g2)
      simp only [List.cons.injEq, and_true] at e0 e1 e2
      subst e0 e1 e2
      have b0 := bounds_i64 h0
      have b1 := bounds_i64 h1
      have b2 := bounds_i64 h2
      exact ⟨⟨k0, k1, k2⟩, rfl, Cd.Typed.mk (by dsimp only; omega) (by dsimp only; omega) (by dsimp only; omega)⟩
theorem cap_ok {H : Type} {P : Program} {enc : TypeId × Value → H} {w : World} {base : Nat} {spare : Nat → Bool} {held : Bool} {fuel : Nat} {t e : TypeId} {a : Option Addr} {len cap : Nat} {x : DataW H × List MemPlace}
    (ht : P.underlying t = some (.slice e)) (h : DataW.trod enc P w base spare held fuel t (Value.slice a len cap).cells.toList = some x) : len ≤ cap ∧ cap ≤ maxLen := by
  rcases Deep.open_slice ht h with ⟨e, _⟩ | ⟨a', len', cap', m, n, D, Pl, e, _, h1, h2, _⟩
  · simp [Value.cells] at e
    obtain ⟨_, rfl, rfl⟩ := e
    exact ⟨Nat.le_refl _, Nat.zero_le _⟩
  · simp [Value.cells] at e
    obtain ⟨_, rfl, rfl⟩ := e
    exact ⟨h1, h2⟩
theorem run_min16 (a b m : Int) (h : min a b = m) (ts : Array TypeId) (t : TypeId) (w : World) : (Builtin.min_ ts t #[.int .i64 a, .int .i64 b]).run Try.prog w = .ok (.int .i64 m) w := by
  subst h
  rcases Int.lt_trichotomy a b with h | rfl | h
  · simp [Builtin.min_, Builtin.min2, show min a b = a by omega, h, show ¬ b < a by omega]
  · simp [Builtin.min_, Builtin.min2]
  · simp [Builtin.min_, Builtin.min2, show min a b = b by omega, h, show ¬ a < b by omega]
set_option maxRecDepth 100000 in
/-- The first m of a slice. -/
theorem cut16 {l : List Cd} {F : Nat → Prop} {w : World} {vx : Option Addr} {vc : Nat} (hs : SlAt F 3 cdC w (.slice vx l.length vc) l) (h0 : l ≠ []) (hc : l.length ≤ vc) {m : Nat} (hm : m ≤ l.length) :
    (∀ W, (Instr.slice 22 (.slice vx l.length vc) none (some (.int .i64 (m : Int))) none).run Try.prog W = .ok (.slice vx m vc) W) ∧ SlAt F 3 cdC w (.slice vx m vc) (l.take m) := by
  rcases hs with ⟨_, _, _, _, hn⟩ | ⟨b, off, cap, hv, hb, hcs⟩
  · exact absurd hn h0
  · obtain ⟨rfl, _⟩ := Value.slice.inj hv
    constructor
    · intro W
      have hz : ∀ W, (Go.sizeOf 41).run Try.prog W = .ok 3 W := fun W => by kernel_rfl
      have he : Try.prog.elem 22 = 41 := by kernel_rfl
      rw [run_slice_h W 22 _ _ _ Try.underlying22 .i64 (m : Int) (by omega) (by omega), he, hz]
      simp [Result.andThen, sliced, Addr.add_lit]
    · refine .inr ⟨b, off, vc, ?_, hb, fun i x hx j u hu => hcs i x ?_ j u hu⟩
      · rw [List.length_take, Nat.min_eq_left hm]
      · rw [List.getElem?_take] at hx
        split at hx
        · exact hx
        · cases hx
theorem info_cd : (Try.prog.info? 41).map (fun i => (i.zero, i.size, i.bytes)) = some (some (.agg #[.int .i64 0, .int .i64 0, .int .i64 0]), 3, 24) := by kernel_rfl
theorem info_rcd : (Try.prog.info? 51).map (fun i => (i.zero, i.size, i.bytes)) = some (some (.agg #[.int .i64 0, .int .i64 0, .int .i64 0]), 3, 24) := by kernel_rfl
abbrev cdA (c : Cd) : Array Value := #[.int .i64 c.lo, .int .i64 c.mid, .int .i64 c.hi]
theorem cd_row (w : World) (c : Cd) (t : TypeId) : ∀ j u, (cdC c)[j]? = some u → (w.alloc (.cells (cdA c) t)).cell? ((⟨w.heap.size, 0, none⟩ : Addr).add j) = some u := by
  intro j u hu
  rw [Addr.add_lit, Nat.zero_add]
  have e : (cdA c)[j]? = (cdC c)[j]? := by
    have e' : cdA c = (cdC c).toArray := rfl
    rw [e', List.getElem?_toArray]
  simp only [World.cell?, heap_alloc_new]
  rw [← hu]
  exact e
theorem cdC_one (c : Cd) : ∀ u ∈ cdC c, u.oneCell' = true := by
  intro u hu
  simp only [cdC, List.mem_cons, List.not_mem_nil, or_false] at hu
  rcases hu with rfl | rfl | rfl <;> rfl
theorem cd_at {w : World} {b q : Nat} {c : Cd} (h : ∀ j u, (cdC c)[j]? = some u → w.cell? ⟨b, q + j, none⟩ = some u) :
    w.cell? ⟨b, q, none⟩ = some (.int .i64 c.lo) ∧ w.cell? ⟨b, q + 1, none⟩ = some (.int .i64 c.mid) ∧ w.cell? ⟨b, q + 2, none⟩ = some (.int .i64 c.hi) := ⟨h 0 _ rfl, h 1 _ rfl, h 2 _ rfl⟩
theorem quiet_world16 {w w' : World} (h : ∃ p : Regrown, w' = grow (redrawn w p.d) p.os) : Below w.heap.size w w' := by
  obtain ⟨p, rfl⟩ := h
  exact below_regrown w p.d p.os
set_option maxRecDepth 100000 in
set_option maxHeartbeats 6400000 in
theorem theirs16_any (l : List Cd) (hl : l.length ≤ 100000) {F : Nat → Prop} {v : Value} (w : World) (hs : SlAt F 3 cdC w v l) (hF : ∀ b, F b → b < w.heap.size) :
    Calls Try.prog 12 #[v] w fun e w' => ∃ u, e = .returned u ∧ SlAt (fun b => w.heap.size ≤ b ∧ b < w'.heap.size) 3 cdC w' u l ∧ Below w.heap.size w w' := by
  obtain ⟨i0, hi0, hz0, hz1, hz2⟩ := info_parts info_rcd
  have HS := Lib.hid hs
  obtain ⟨vx, vc, rfl⟩ := hs.slice
  have ownS := ownsRow_fresh w 51 3 w.heap.size (Nat.le_refl _)
  have bS := (Below.refl w.heap.size w).alloc (Nat.le_refl _) (.cells #[] 51)
  clear hs
  go_enter Try.func12, Try.ntmps12
  go_wp2_with fail
  go_loopw [3, 4] (fun o i wr => ∃ n : Nat, n ≤ l.length ∧ i = .int .i64 (n : Int) ∧ wr.ownsRow w.heap.size 51 3 o (l.take n).length ((l.take n).flatMap cdC) ∧ Below w.heap.size w wr) (fun _ i _ => l.length - (intOf i).toNat)
  case atStart => exact ⟨0, Nat.zero_le _, rfl, by rw [List.take_zero]; exact ownS, bS⟩
  case round =>
    obtain ⟨n, hn, rfl, own, hB⟩ := hrel
    clear ownS bS
    have z1 := hB.size
    have htl : (l.take n).length = n := by rw [List.length_take]; omega
    by_cases hlt : n < l.length
    · obtain ⟨s, hsn⟩ : ∃ s, l[n]? = some s := ⟨_, List.getElem?_eq_getElem hlt⟩
      have i1 : (n : Int) < l.length := by omega
      have i0' : (0 : Int) ≤ (n : Int) := by omega
      rcases HS.out with ⟨_, _, _, _, hnil⟩ | ⟨b, off, cap', hvv, hbF, hcs⟩
      · rw [hnil] at hlt
        simp at hlt
      have hsxx : vx = some ⟨b, off, none⟩ := (Value.slice.inj hvv).1
      subst hsxx
      have lb := hF b hbF
      obtain ⟨x0, x1, x2⟩ := cd_at (w := wr) (b := b) (q := off + n * 3) (c := s) (fun j u hu => by
        rw [hB.cell lb]
        exact hcs n s hsn j u hu)
      have htk : l.take (n + 1) = l.take n ++ [s] := by
        obtain ⟨h1, rfl⟩ := List.getElem?_eq_some_iff.1 hsn
        exact List.take_succ_eq_append_getElem h1
      have TK := Lib.hid htk
      clear htk hcs hvv
      rw [htl] at own
      go_wp2_with (at_builtin; refine wpList_append_own _ rfl _ _ 27 rfl w.heap.size 51 i0 _ 3 24 Try.underlying27 hi0 hz0 hz1 hz2 rfl (by decide) _ _ _ rfl (own.alloc _) ⟨wr.heap.size, 0, none⟩ 1 1 (cdC s) rfl rfl (cd_row _ _ _) (cdC_one s) (by unfold maxLen; omega) (by omega) (by first | (rw [World.size_alloc]; omega) | (simp; omega)) ?_; intro v4 w4 hown4 hgrow4 _; have own4 : w4.ownsRow w.heap.size 51 3 v4 (l.take (n + 1)).length ((l.take (n + 1)).flatMap cdC) := (by rw [TK.out, List.flatMap_append, List.length_append, htl]; simpa using hown4); have B4 := (hB.alloc (by omega) (.cells (cdA s) 51)).grown hgrow4 (by first | (rw [World.size_alloc]; omega) | (simp; omega)) (fun g hg => by have := (own.lt g hg).1; omega); have z4 := B4.size)
      go_roundw
      case rel => exact ⟨n + 1, by omega, by go_num, own4, B4⟩
      case measure => simp [intOf]; omega
    · have enl : n = l.length := by omega
      subst enl
      rw [List.take_length] at own
      have SM := Lib.hid (SlAt.own cdC_length own)
      have BB := Lib.hid hB
      clear own hB
      go_wp2_with fail
      go_ret
      exact ⟨_, rfl, SM.out, BB.out⟩
set_option maxRecDepth 100000 in
set_option maxHeartbeats 6400000 in
theorem rchk16_any (l : List Cd) (hl : l.length ≤ 100000) {F : Nat → Prop} {v : Value} (w : World) (hs : SlAt F 3 cdC w v l) (hF : ∀ b, F b → b < w.heap.size) :
    Calls Try.prog 11 #[v] w fun e w' => e = .returned (.int .i64 (chkC l)) ∧ Below w.heap.size w w' := by
  have HS := Lib.hid hs
  obtain ⟨vx, vc, rfl⟩ := hs.slice
  clear hs
  have hv : chkC l = if 10 < l.length ∨ ∃ c ∈ l, ¬ c.Ok then 1 else 0 := rfl
  by_cases h10 : 10 < l.length
  · rw [hv, if_pos (.inl h10)]
    have i1 : (10 : Int) < l.length := by omega
    clear hv
    go_enter Try.func11, Try.ntmps11
    go_wp2_with fail
    go_ret
    exact ⟨rfl, Below.refl _ _⟩
  · have i2 : ¬ (10 : Int) < l.length := by omega
    have HV := Lib.hid hv
    have hR := Below.refl w.heap.size w
    clear hv
    go_enter Try.func11, Try.ntmps11
    go_wp2_with fail
    go_loopw [3] (fun i wr => ∃ n : Nat, n ≤ l.length ∧ i = .int .i64 (n : Int) ∧ (∀ c ∈ l.take n, c.Ok) ∧ Below w.heap.size w wr) (fun i _ => l.length - (intOf i).toNat)
    case atStart => exact ⟨0, Nat.zero_le _, rfl, by simp, hR⟩
    case round =>
      obtain ⟨n, hn, rfl, hok, hB⟩ := hrel
      have OK := Lib.hid hok
      clear hR hok
      by_cases hlt : n < l.length
      · obtain ⟨s, hsn⟩ : ∃ s, l[n]? = some s := ⟨_, List.getElem?_eq_getElem hlt⟩
        have i1 : (n : Int) < l.length := by omega
        have i0' : (0 : Int) ≤ (n : Int) := by omega
        rcases HS.out with ⟨_, _, _, _, hnil⟩ | ⟨b, off, cap', hvv, hbF, hcs⟩
        · rw [hnil] at hlt
          simp at hlt
        have hsxx : vx = some ⟨b, off, none⟩ := (Value.slice.inj hvv).1
        subst hsxx
        have lb := hF b hbF
        obtain ⟨x0, x1, x2⟩ := cd_at (w := wr) (b := b) (q := off + n * 3) (c := s) (fun j u hu => by
          rw [hB.cell lb]
          exact hcs n s hsn j u hu)
        have htk : l.take (n + 1) = l.take n ++ [s] := by
          obtain ⟨h1, rfl⟩ := List.getElem?_eq_some_iff.1 hsn
          exact List.take_succ_eq_append_getElem h1
        have TK := Lib.hid htk
        have BB := Lib.hid hB
        have MS := Lib.hid (List.mem_of_getElem? hsn)
        clear htk hcs hvv hB hsn
        by_cases g1 : s.mid < s.lo
        · have d1 : decide (s.mid < s.lo) = true := decide_eq_true g1
          have hvl : chkC l = 1 := by rw [HV.out, if_pos (.inr ⟨s, MS.out, fun h => by unfold Cd.Ok at h; omega⟩)]
          have HVL := Lib.hid hvl
          clear hvl
          go_wp2_with fail
          go_quiet (fail)
          have hbn := Lib.hid (below_drewN BB.out nq)
          go_wp2_with fail
          go_ret
          exact ⟨(congrArg (fun z => Ending.returned (.int .i64 z)) HVL.out.symm), hbn.out⟩
        · have d1 : decide (s.mid < s.lo) = false := decide_eq_false g1
          by_cases g2 : s.hi < s.mid
          · have d2 : decide (s.hi < s.mid) = true := decide_eq_true g2
            have hvl : chkC l = 1 := by rw [HV.out, if_pos (.inr ⟨s, MS.out, fun h => by unfold Cd.Ok at h; omega⟩)]
            have HVL := Lib.hid hvl
            clear hvl
            go_wp2_with fail
            go_quiet (fail)
            have hbn := Lib.hid (below_drewN BB.out nq)
            go_wp2_with fail
            go_ret
            exact ⟨(congrArg (fun z => Ending.returned (.int .i64 z)) HVL.out.symm), hbn.out⟩
          · have d2 : decide (s.hi < s.mid) = false := decide_eq_false g2
            have ok' := Lib.hid (show s.Ok from ⟨by omega, by omega⟩)
            go_wp2_with fail
            go_quiet (fail)
            have hbn := Lib.hid (below_drewN BB.out nq)
            go_wp2_with fail
            go_roundw
            case rel =>
              refine ⟨n + 1, by omega, by go_num, fun c hc => ?_, hbn.out⟩
              rw [TK.out] at hc
              rcases List.mem_append.1 hc with hc | hc
              · exact OK.out c hc
              · obtain rfl : c = s := by simpa using hc
                exact ok'.out
            case measure => simp [intOf]; omega
      · have enl : n = l.length := by omega
        subst enl
        have hvl : chkC l = 0 := by
          rw [HV.out, if_neg]
          rintro (g | ⟨c, hc, g⟩)
          · exact h10 g
          · exact g (OK.out c (by rw [List.take_length]; exact hc))
        have HVL := Lib.hid hvl
        clear hvl
        have BB := Lib.hid hB
        clear hB
        go_wp2_with fail
        go_ret
        exact ⟨(congrArg (fun z => Ending.returned (.int .i64 z)) HVL.out.symm), BB.out⟩
/-- The cells of a slice's row, all of them. -/
theorem row_of16 {l : List Cd} {w : World} {b off : Nat} (hcs : ∀ i x, l[i]? = some x → ∀ j u, (cdC x)[j]? = some u → w.cell? ⟨b, off + i * 3 + j, none⟩ = some u) :
    ∀ j u, (l.flatMap cdC)[j]? = some u → w.cell? ((⟨b, off, none⟩ : Addr).add j) = some u := by
  intro j u hu
  obtain ⟨i, x, m, hx, hm, rfl⟩ := flat_inv 3 cdC cdC_length l j u hu
  rw [Addr.add_lit, ← Nat.add_assoc]
  exact hcs i x hx m u hm
theorem flat_one16 {l : List Cd} : ∀ u ∈ l.flatMap cdC, u.oneCell' = true := by
  intro u hu
  obtain ⟨c, _, h⟩ := List.mem_flatMap.1 hu
  exact cdC_one c u h
theorem flat_set16 {l : List Cd} {j : Nat} {c d : Cd} (h : l[j]? = some c) (hm : d.mid = c.mid) : ((l.flatMap cdC).set (j * 3) (.int .i64 d.lo)).set (j * 3 + 2) (.int .i64 d.hi) = (l.set j d).flatMap cdC := by
  induction l generalizing j with
  | nil => simp at h
  | cons y l ih =>
    cases j with
    | zero =>
      obtain rfl : y = c := by simpa using h
      simp [cdC, hm]
    | succ j =>
      have := ih (j := j) (by simpa using h)
      simp only [List.set_cons_succ, List.flatMap_cons]
      rw [← this, List.set_append_right _ _ (by rw [cdC_length]; omega), List.set_append_right _ _ (by rw [cdC_length]; omega), cdC_length]
      rw [show (j + 1) * 3 - 3 = j * 3 by omega, show (j + 1) * 3 + 2 - 3 = j * 3 + 2 by omega]
theorem flat_cell16 {l : List Cd} {j : Nat} {c : Cd} (h : l[j]? = some c) (m : Nat) (u : Value) (hu : (cdC c)[m]? = some u) : (l.flatMap cdC)[j * 3 + m]? = some u := flat_at 3 cdC cdC_length l j c h m u hu
def threeC : List Cd := [⟨0, 1, 2⟩, ⟨1, 2, 3⟩, ⟨10, 11, 12⟩]
theorem three_meet : meetF threeC = some ((1, 2), 1) ∧ chkC threeC = 0 ∧ depN threeC 1 = 2 := by
  refine ⟨by decide +kernel, by decide +kernel, by decide +kernel⟩
theorem three_typed : ∀ c ∈ threeC, c.Typed := by
  intro c hc
  simp only [threeC, List.mem_cons, List.not_mem_nil, or_false] at hc
  rcases hc with rfl | rfl | rfl <;> exact ⟨by decide, by decide, by decide⟩
set_option maxRecDepth 100000 in
set_option maxHeartbeats 6400000 in
theorem shown16_any (w : World) : Calls Try.prog 10 #[] w fun e w' => e = .returned (.bool true) ∧ Below w.heap.size w w' := by
  have hs : SlAt (fun b => b = w.heap.size) 3 cdC (w.alloc (.cells #[.int .i64 0, .int .i64 1, .int .i64 2, .int .i64 1, .int .i64 2, .int .i64 3, .int .i64 10, .int .i64 11, .int .i64 12] 41)) (.slice (some ⟨w.heap.size, 0, none⟩) 3 3) threeC := by
    refine .inr ⟨w.heap.size, 0, 3, rfl, rfl, fun i x hx j u hu => ?_⟩
    have e := flat_at 3 cdC cdC_length threeC i x hx j u hu
    have hj : j < 3 := by have := (List.getElem?_eq_some_iff.1 hu).1; rwa [cdC_length] at this
    rw [Nat.zero_add]
    simp only [World.cell?, heap_alloc_new]
    rw [← e]
    have e' : (#[.int .i64 0, .int .i64 1, .int .i64 2, .int .i64 1, .int .i64 2, .int .i64 3, .int .i64 10, .int .i64 11, .int .i64 12] : Array Value) = (threeC.flatMap cdC).toArray := rfl
    show (#[.int .i64 0, .int .i64 1, .int .i64 2, .int .i64 1, .int .i64 2, .int .i64 3, .int .i64 10, .int .i64 11, .int .i64 12] : Array Value)[i * 3 + j]? = ((threeC.flatMap cdC) : List Value)[i * 3 + j]?
    rw [e', List.getElem?_toArray]
  have hb := (Below.refl w.heap.size w).alloc (Nat.le_refl _) (.cells #[.int .i64 0, .int .i64 1, .int .i64 2, .int .i64 1, .int .i64 2, .int .i64 3, .int .i64 10, .int .i64 11, .int .i64 12] 41)
  obtain ⟨g1, g2, g3⟩ := three_meet
  have hl : ∀ b, b = w.heap.size → b < (w.alloc (.cells #[.int .i64 0, .int .i64 1, .int .i64 2, .int .i64 1, .int .i64 2, .int .i64 3, .int .i64 10, .int .i64 11, .int .i64 12] 41)).heap.size := fun b e => by subst e; simp
  have c1 := mmeet_any threeC three_typed g2 _ hs hl
  rw [g1, show allowI threeC = 1 by unfold allowI; rw [g1]; rfl] at c1
  replace c1 : Calls Try.prog 16 #[.slice (some ⟨w.heap.size, 0, none⟩) 3 3] (w.alloc (.cells #[.int .i64 0, .int .i64 1, .int .i64 2, .int .i64 1, .int .i64 2, .int .i64 3, .int .i64 10, .int .i64 11, .int .i64 12] 41)) fun e w' => e = .returned (.tuple #[.agg #[.int .i64 1, .int .i64 2], .int .i64 1, .bool true]) ∧ Below (w.alloc (.cells #[.int .i64 0, .int .i64 1, .int .i64 2, .int .i64 1, .int .i64 2, .int .i64 3, .int .i64 10, .int .i64 11, .int .i64 12] 41)).heap.size (w.alloc (.cells #[.int .i64 0, .int .i64 1, .int .i64 2, .int .i64 1, .int .i64 2, .int .i64 3, .int .i64 10, .int .i64 11, .int .i64 12] 41)) w' := c1
  have HS := Lib.hid hs
  have HL := Lib.hid hl
  clear hs hl g1
  go_enter Try.func10, Try.ntmps10
  go_upto_region 2 with fail
  generalize w.alloc (.cells #[.int .i64 0, .int .i64 1, .int .i64 2, .int .i64 1, .int .i64 2, .int .i64 3, .int .i64 10, .int .i64 11, .int .i64 12] 41) = w1 at *
  go_wp2_with fail
  (with_reducible refine c1.mono ?_)
  rintro e w2 ⟨rfl, hb2⟩
  have hA := hb2.alloc hb2.size (.cells #[.int .i64 1, .int .i64 2] 31)
  have hz := heap_alloc_new w2 (.cells #[.int .i64 1, .int .i64 2] 31)
  go_upto_region 3 with fail
  generalize w2.alloc (.cells #[.int .i64 1, .int .i64 2] 31) = w3 at *
  have q0 : w3.cell? ⟨w2.heap.size, 0, none⟩ = some (.int .i64 1) := by simp [World.cell?, hz]
  have q1 : w3.cell? ⟨w2.heap.size, 1, none⟩ = some (.int .i64 2) := by simp [World.cell?, hz]
  have s3 := HS.out.kept (w' := w3) (fun b e => hA.block b (HL.out b e))
  have k2 := mchk_any threeC three_typed w3 s3 (fun b e => Nat.lt_of_lt_of_le (HL.out b e) hA.size)
  rw [g2] at k2
  have h3 := hb.trans (hA.mono hb.size)
  go_wp2_with fail
  (with_reducible refine k2.mono ?_)
  rintro e w4 ⟨rfl, hb4⟩
  have s4 := s3.kept (fun b e => hb4.block b (Nat.lt_of_lt_of_le (HL.out b e) hA.size))
  have k3 := mdep_any threeC three_typed g2 1 (by decide) w4 s4 (fun b e => Nat.lt_of_lt_of_le (Nat.lt_of_lt_of_le (HL.out b e) hA.size) hb4.size)
  rw [g3] at k3
  have h4 := h3.trans (hb4.mono h3.size)
  go_wp2_with fail
  (with_reducible refine k3.mono ?_)
  rintro e w5 ⟨rfl, hb5⟩
  have h5 := Lib.hid (h4.trans (hb5.mono h4.size))
  go_wp2_with fail
  go_ret
  exact ⟨rfl, h5.out⟩
end Go.Proofs.Ytkbjmcgnjhpkiaa.W
