/- Layer 17's laws: nodes that came in, opened; lists of places compared; that the far one goes. -/
import Derived.Test.YtefjdmbioclddaaCnX
import Derived.Test.YtefjdmbioclddaaRows
import Derived.Test.YtefjdmbioclddaaQtB
import Derived.Test.YtefjdmbioclddaaWdefs
import Derived.ChangeArms
import Derived.WalkSpells
import Derived.WalkLawsBesides
import Derived.Deep.DeepCutAuto
import Derived.Deep.AppendLies
import Derived.Laws.OwnMore
import Derived.OpenShut
import Derived.ChangeOld
import Derived.ShutString
import Derived.WideShapes
import Derived.Handy
import Derived.WalkKit
import Derived.Lib.Hide
import Derived.Maps.AppendAt
import Derived.BigQuiet
namespace Go.Proofs.Ytefjdmbioclddaa.W
open Go.RowKit Go.Sort Go.ChangeShapes Go.WideShapes Go.ChangeMaps
set_option linter.unusedVariables false
set_option linter.unusedSimpArgs false
theorem ndC_length (c : Nd) : (ndC c).length = 3 := rfl
set_option maxRecDepth 100000 in
theorem open_nds {H : Type} {enc : TypeId × Value → H} {w : World} {base : Nat} {spare : Nat → Bool} {held : Bool} {fuel : Nat} {cs : List Value} {x : DataW H × List MemPlace}
    (h : DataW.trod enc Try.prog w base spare held fuel 22 cs = some x) :
    ∃ (v : Value) (l : List Nd), cs = [v] ∧ SlAt (fun b => b < w.heap.size) 3 ndC w v l ∧ (∀ f ∈ l, f.Typed) ∧ l.length ≤ maxLen := by
  refine open_sl Try.underlying22 3 (by kernel_rfl) (by decide) ndC ndC_length Nd.Typed ?_ h
  intro n cs' y hy hl
  obtain ⟨xs, m, _, _, _, hlen, hf⟩ := DataW.trod_struct Try.underlying40 hy
  match xs, hlen with
  | [y0, y1, y2], _ =>
    have g0 := hf 0 _ rfl
    have g1 := hf 1 _ rfl
    have g2 := hf 2 _ rfl
    match cs', hl with
    | [c0, c1, c2], _ =>
      obtain ⟨k0, e0, _, h0⟩ := DataW.trod_int Try.underlying2 (show DataW.trod _ Try.prog w base spare held m 2 [c0] = _ from g0)
      obtain ⟨k1, e1, _, h1⟩ := DataW.trod_int Try.underlying2 (show DataW.trod _ Try.prog w base spare held m 2 [c1] = _ from g1)
      obtain ⟨k2, e2, _, h2⟩ := DataW.trod_int Try.underlying2 (show DataW.trod _ Try.prog w base spare held m 2 [c2] = _ from g2)
      simp only [List.cons.injEq, and_true] at e0 e1 e2
      subst e0 e1 e2
      have b0 := bounds_i64 h0
      have b1 := bounds_i64 h1
      have b2 := bounds_i64 h2
      exact ⟨⟨k0, k1, k2⟩, rfl, Nd.Typed.mk (by dsimp only; omega) (by dsimp only; omega) (by dsimp only; omega)⟩
theorem cap_ok17 {H : Type} {P : Program} {enc : TypeId × Value → H} {w : World} {base : Nat} {spare : Nat → Bool} {held : Bool} {fuel : Nat} {t e : TypeId} {a : Option Addr} {len cap : Nat} {x : DataW H × List MemPlace}
    (ht : P.underlying t = some (.slice e)) (h : DataW.trod enc P w base spare held fuel t (Value.slice a len cap).cells.toList = some x) : len ≤ cap ∧ cap ≤ maxLen := by
  rcases Deep.open_slice ht h with ⟨e, _⟩ | ⟨a', len', cap', m, n, D, Pl, e, _, h1, h2, _⟩
  · simp [Value.cells] at e
    obtain ⟨_, rfl, rfl⟩ := e
    exact ⟨Nat.le_refl _, Nat.zero_le _⟩
  · simp [Value.cells] at e
    obtain ⟨_, rfl, rfl⟩ := e
    exact ⟨h1, h2⟩
theorem info_nd : (Try.prog.info? 40).map (fun i => (i.zero, i.size, i.bytes)) = some (some (.agg #[.int .i64 0, .int .i64 0, .int .i64 0]), 3, 24) := by kernel_rfl
theorem info_rnd : (Try.prog.info? 50).map (fun i => (i.zero, i.size, i.bytes)) = some (some (.agg #[.int .i64 0, .int .i64 0, .int .i64 0]), 3, 24) := by kernel_rfl
abbrev ndA (c : Nd) : Array Value := #[.int .i64 c.off, .int .i64 c.jit, .int .i64 c.met]
theorem nd_row (w : World) (c : Nd) (t : TypeId) : ∀ j u, (ndC c)[j]? = some u → (w.alloc (.cells (ndA c) t)).cell? ((⟨w.heap.size, 0, none⟩ : Addr).add j) = some u := by
  intro j u hu
  rw [Addr.add_lit, Nat.zero_add]
  have e : (ndA c)[j]? = (ndC c)[j]? := by
    have e' : ndA c = (ndC c).toArray := rfl
    rw [e', List.getElem?_toArray]
  simp only [World.cell?, heap_alloc_new]
  rw [← hu]
  exact e
theorem ndC_one (c : Nd) : ∀ u ∈ ndC c, u.oneCell' = true := by
  intro u hu
  simp only [ndC, List.mem_cons, List.not_mem_nil, or_false] at hu
  rcases hu with rfl | rfl | rfl <;> rfl
theorem nd_at {w : World} {b q : Nat} {c : Nd} (h : ∀ j u, (ndC c)[j]? = some u → w.cell? ⟨b, q + j, none⟩ = some u) :
    w.cell? ⟨b, q, none⟩ = some (.int .i64 c.off) ∧ w.cell? ⟨b, q + 1, none⟩ = some (.int .i64 c.jit) ∧ w.cell? ⟨b, q + 2, none⟩ = some (.int .i64 c.met) := ⟨h 0 _ rfl, h 1 _ rfl, h 2 _ rfl⟩
theorem nd_row' {w : World} {H : Nat} (hs : w.heap.size = H) (c : Nd) (t : TypeId) : ∀ j u, (ndC c)[j]? = some u → (w.alloc (.cells (ndA c) t)).cell? ((⟨H, 0, none⟩ : Addr).add j) = some u := by
  subst hs
  exact nd_row w c t
theorem run_min17 (a b m : Int) (h : min a b = m) (ts : Array TypeId) (t : TypeId) (w : World) : (Builtin.min_ ts t #[.int .i64 a, .int .i64 b]).run Try.prog w = .ok (.int .i64 m) w := by
  subst h
  rcases Int.lt_trichotomy a b with h | rfl | h
  · simp [Builtin.min_, Builtin.min2, show min a b = a by omega, h, show ¬ b < a by omega]
  · simp [Builtin.min_, Builtin.min2]
  · simp [Builtin.min_, Builtin.min2, show min a b = b by omega, h, show ¬ a < b by omega]
theorem run_max17 (a b m : Int) (h : max a b = m) (ts : Array TypeId) (t : TypeId) (w : World) : (Builtin.max_ ts t #[.int .i64 a, .int .i64 b]).run Try.prog w = .ok (.int .i64 m) w := by
  subst h
  rcases Int.lt_trichotomy a b with h | rfl | h
  · simp [Builtin.max_, Builtin.max2, show max a b = b by omega, h, show ¬ b < a by omega]
  · simp [Builtin.max_, Builtin.max2]
  · simp [Builtin.max_, Builtin.max2, show max a b = a by omega, h, show ¬ a < b by omega]
theorem row_of17 {l : List Nd} {w : World} {b off : Nat} (hcs : ∀ i x, l[i]? = some x → ∀ j u, (ndC x)[j]? = some u → w.cell? ⟨b, off + i * 3 + j, none⟩ = some u) :
    ∀ j u, (l.flatMap ndC)[j]? = some u → w.cell? ((⟨b, off, none⟩ : Addr).add j) = some u := by
  intro j u hu
  obtain ⟨i, x, m, hx, hm, rfl⟩ := flat_inv 3 ndC ndC_length l j u hu
  rw [Addr.add_lit, ← Nat.add_assoc]
  exact hcs i x hx m u hm
/-- Places of a slice, as the walk reads them. -/
theorem pl_cell {l : List Nat} {F : Nat → Prop} {w : World} {b off cap n : Nat} (hs : SlAt F 1 plE w (.slice (some ⟨b, off, none⟩) n cap) l) {i x : Nat} (hx : l[i]? = some x) : w.cell? ⟨b, off + i, none⟩ = some (.int .i64 (x : Int)) ∧ F b := by
  rcases hs with ⟨_, _, _, _, hnil⟩ | ⟨b', off', cap', hv, hF, hc⟩
  · rw [hnil] at hx
    cases hx
  · obtain ⟨e1, _, _⟩ := Value.slice.inj hv
    obtain ⟨rfl, rfl⟩ : b = b' ∧ off = off' := by simpa using e1
    have := hc i x hx 0 _ rfl
    exact ⟨by simpa using this, hF⟩
theorem pl_some {l : List Nat} {F : Nat → Prop} {w : World} {a : Option Addr} {n cap : Nat} (hs : SlAt F 1 plE w (.slice a n cap) l) {i x : Nat} (hx : l[i]? = some x) : ∃ b off, a = some ⟨b, off, none⟩ := by
  rcases hs with ⟨_, _, _, _, hnil⟩ | ⟨b', off', cap', hv, hF, hc⟩
  · rw [hnil] at hx
    cases hx
  · exact ⟨b', off', (Value.slice.inj hv).1⟩
set_option maxRecDepth 100000 in
set_option maxHeartbeats 6400000 in
/-- Two lists of places that are the same. -/
theorem ints17_any (l : List Nat) (hl : l.length ≤ 100000) {F G : Nat → Prop} {u v : Value} (w : World) (hs : SlAt F 1 plE w u l) (hg : SlAt G 1 plE w v l) (hF : ∀ b, F b → b < w.heap.size) (hG : ∀ b, G b → b < w.heap.size) :
    Calls Try.prog 16 #[u, v] w fun e w' => e = .returned (.bool true) ∧ Below w.heap.size w w' := by
  have HS := Lib.hid hs
  have HG := Lib.hid hg
  obtain ⟨ux, uc, rfl⟩ := hs.slice
  obtain ⟨vx, vc, rfl⟩ := hg.slice
  have hR := Below.refl w.heap.size w
  clear hs hg
  go_enter Try.func16, Try.ntmps16
  go_wp2_with fail
  go_loopw [5] (fun i wr => ∃ n : Nat, n ≤ l.length ∧ i = .int .i64 (n : Int) ∧ Below w.heap.size w wr) (fun i _ => l.length - (intOf i).toNat)
  case atStart => exact ⟨0, Nat.zero_le _, rfl, hR⟩
  case round =>
    obtain ⟨n, hn, rfl, hB⟩ := hrel
    clear hR
    by_cases hlt : n < l.length
    · obtain ⟨x, hx⟩ : ∃ x, l[n]? = some x := ⟨_, List.getElem?_eq_getElem hlt⟩
      have i1 : (n : Int) < l.length := by omega
      have i0' : (0 : Int) ≤ (n : Int) := by omega
      obtain ⟨b1, o1, rfl⟩ := pl_some HS.out hx
      obtain ⟨b2, o2, rfl⟩ := pl_some HG.out hx
      obtain ⟨c1, f1⟩ := pl_cell HS.out hx
      obtain ⟨c2, f2⟩ := pl_cell HG.out hx
      have d1 : wr.cell? ⟨b1, o1 + n, none⟩ = some (.int .i64 (x : Int)) := by rw [hB.cell (hF _ f1)]; exact c1
      have d2 : wr.cell? ⟨b2, o2 + n, none⟩ = some (.int .i64 (x : Int)) := by rw [hB.cell (hG _ f2)]; exact c2
      have BB := Lib.hid hB
      clear c1 c2 f1 f2 hx hB
      go_wp2_with fail
      go_quiet (fail)
      have hbn := Lib.hid (below_drewN BB.out nq)
      go_wp2_with fail
      go_roundw
      case rel => exact ⟨n + 1, by omega, by go_num, hbn.out⟩
      case measure => simp [intOf]; omega
    · have enl : n = l.length := by omega
      subst enl
      have BB := Lib.hid hB
      clear hB
      go_wp2_with fail
      go_ret
      exact ⟨rfl, BB.out⟩
set_option maxRecDepth 100000 in
set_option maxHeartbeats 6400000 in
theorem shown17_any (w : World) : Calls Try.prog 8 #[] w fun e w' => e = .returned (.bool true) ∧ Below w.heap.size w w' := by
  have hs : SlAt (fun b => b = w.heap.size) 3 ndC (w.alloc (.cells #[.int .i64 0, .int .i64 0, .int .i64 0, .int .i64 4294967296, .int .i64 0, .int .i64 0, .int .i64 429496729600, .int .i64 0, .int .i64 0] 40)) (.slice (some ⟨w.heap.size, 0, none⟩) 3 3) threeN := by
    refine .inr ⟨w.heap.size, 0, 3, rfl, rfl, fun i x hx j u hu => ?_⟩
    have e := flat_at 3 ndC ndC_length threeN i x hx j u hu
    have hj : j < 3 := by have := (List.getElem?_eq_some_iff.1 hu).1; rwa [ndC_length] at this
    rw [Nat.zero_add]
    simp only [World.cell?, heap_alloc_new]
    rw [← e]
    have e' : (#[.int .i64 0, .int .i64 0, .int .i64 0, .int .i64 4294967296, .int .i64 0, .int .i64 0, .int .i64 429496729600, .int .i64 0, .int .i64 0] : Array Value) = (threeN.flatMap ndC).toArray := rfl
    show (#[.int .i64 0, .int .i64 0, .int .i64 0, .int .i64 4294967296, .int .i64 0, .int .i64 0, .int .i64 429496729600, .int .i64 0, .int .i64 0] : Array Value)[i * 3 + j]? = ((threeN.flatMap ndC) : List Value)[i * 3 + j]?
    rw [e', List.getElem?_toArray]
  have hb := (Below.refl w.heap.size w).alloc (Nat.le_refl _) (.cells #[.int .i64 0, .int .i64 0, .int .i64 0, .int .i64 4294967296, .int .i64 0, .int .i64 0, .int .i64 429496729600, .int .i64 0, .int .i64 0] 40)
  obtain ⟨g1, g2⟩ := three_prune
  have hl : ∀ b, b = w.heap.size → b < (w.alloc (.cells #[.int .i64 0, .int .i64 0, .int .i64 0, .int .i64 4294967296, .int .i64 0, .int .i64 0, .int .i64 429496729600, .int .i64 0, .int .i64 0] 40)).heap.size := fun b e => by subst e; simp
  have HS := Lib.hid hs
  have HL := Lib.hid hl
  have G1 := Lib.hid g1
  clear hs hl g1
  go_enter Try.func8, Try.ntmps8
  go_upto_region 2 with fail
  generalize w.alloc (.cells #[.int .i64 0, .int .i64 0, .int .i64 0, .int .i64 4294967296, .int .i64 0, .int .i64 0, .int .i64 429496729600, .int .i64 0, .int .i64 0] 40) = w1 at *
  have c1 := cprn_any threeN three_typedN (by decide) 2 (by decide) w1 HS.out HL.out
  generalize (prune threeN 2).2 = far at *
  go_wp2_with fail
  (with_reducible refine c1.mono ?_)
  rintro e w2 ⟨u, rfl, hu, hb2⟩
  rw [G1.out] at hu
  obtain ⟨ux, uc, rfl⟩ := hu.slice
  have hA := hb2.alloc hb2.size (.cells #[.int .i64 0, .int .i64 1] 3)
  have hu3 := hu.kept (w' := w2.alloc (.cells #[.int .i64 0, .int .i64 1] 3)) (fun b h => ((Below.refl _ w2).alloc (Nat.le_refl _) (.cells #[.int .i64 0, .int .i64 1] 3)).block b h.2)
  have hv : SlAt (fun b => b = w2.heap.size) 1 plE (w2.alloc (.cells #[.int .i64 0, .int .i64 1] 3)) (.slice (some ⟨w2.heap.size, 0, none⟩) 2 2) [0, 1] := by
    refine .inr ⟨w2.heap.size, 0, 2, rfl, rfl, fun i x hx j u hu => ?_⟩
    have e := flat_at 1 plE plE_length [0, 1] i x hx j u hu
    rw [Nat.zero_add]
    simp only [World.cell?, heap_alloc_new]
    rw [← e]
    have e' : (#[.int .i64 0, .int .i64 1] : Array Value) = (([0, 1] : List Nat).flatMap plE).toArray := rfl
    show (#[.int .i64 0, .int .i64 1] : Array Value)[i * 1 + j]? = ((([0, 1] : List Nat).flatMap plE) : List Value)[i * 1 + j]?
    rw [e', List.getElem?_toArray]
  have ki := ints17_any [0, 1] (by decide) _ hu3 hv (fun b h => by have := h.2; simp; omega) (fun b h => by subst h; simp)
  have hA1 := HL.out
  clear hu hu3 hv c1
  have HA := Lib.hid hA
  clear hA
  go_wp2_with fail
  refine ki.mono ?_
  rintro e w4 ⟨rfl, hb4⟩
  have B4 := HA.out.trans (hb4.mono HA.out.size)
  have s4 := HS.out.kept (fun b h => B4.block b (HL.out b h))
  have ks := csprd_any threeN three_typedN (by decide) w4 s4 (fun b h => Nat.lt_of_lt_of_le (HL.out b h) B4.size)
  rw [g2] at ks
  clear ki hb4 s4
  go_wp2_with fail
  (with_reducible refine ks.mono ?_)
  rintro e w5 ⟨rfl, hb5⟩
  have B5 := Lib.hid (hb.trans ((B4.trans (hb5.mono B4.size)).mono hb.size))
  clear ks hb5 B4
  go_wp2_with fail
  go_ret
  exact ⟨rfl, B5.out⟩
end Go.Proofs.Ytefjdmbioclddaa.W
