/- Layer 17's own code, walked: how far a node is from the others. -/
import Derived.Test.YtefjdmbioclddaaCnD
import Derived.Test.YtefjdmbioclddaaFixA
import Derived.Test.YtefjdmbioclddaaFixH
import Derived.Test.YtefjdmbioclddaaFixJ
import Derived.Laws.MakeOwn
import Derived.Laws.OwnMore
import Derived.Deep.AppendLies
import Derived.Maps.AppendAt
namespace Go.Proofs.Ytefjdmbioclddaa.W
open Go.RowKit Go.Sort
set_option linter.unusedVariables false
set_option linter.unusedSimpArgs false
theorem info_i64C : (Try.prog.info? 2).map (fun i => (i.zero, i.size, i.bytes)) = some (some (.int .i64 0), 1, 8) := by kernel_rfl
/-- The differences to the first n of the others. -/
def difC (l : List Nd) (i n : Nat) : List Int := ((List.range n).filter fun k => decide (k ≠ i)).map fun k => subI (offN l i) (offN l k)
theorem difC_step (l : List Nd) (i n : Nat) : difC l i (n + 1) = if n = i then difC l i n else difC l i n ++ [subI (offN l i) (offN l n)] := by
  unfold difC
  rw [List.range_succ, List.filter_append, List.map_append]
  by_cases h : n = i
  · rw [if_pos h]
    simp [h]
  · rw [if_neg h]
    simp [h]
theorem difC_length (l : List Nd) (i n : Nat) : (difC l i n).length ≤ n := by
  unfold difC
  rw [List.length_map]
  exact Nat.le_trans (List.length_filter_le _ _) (by rw [List.length_range]; exact Nat.le_refl _)
theorem off_isC {l : List Nd} {i : Nat} {c : Nd} (h : l[i]? = some c) : offN l i = c.off := by unfold offN; simp [List.getD, h]
set_option maxRecDepth 100000 in
set_option maxHeartbeats 12800000 in
theorem capt_any (l : List Nd) (tl : ∀ c ∈ l, c.Typed) (hl : l.length ≤ 100) (i : Int) (ib : -9223372036854775808 ≤ i ∧ i ≤ 9223372036854775807) {F : Nat → Prop} {v : Value} (w : World) (hs : SlAt F 3 ndC w v l) (hF : ∀ b, F b → b < w.heap.size) :
    Calls Try.prog 14 #[v, .int .i64 i] w fun e w' => e = .returned (.int .i64 (apartI l i)) ∧ Below w.heap.size w w' := by
  have HS := Lib.hid hs
  obtain ⟨vx, vc, rfl⟩ := hs.slice
  clear hs
  by_cases hi0 : i < 0
  · have hv : apartI l i = 0 := by unfold apartI; rw [if_pos (.inl hi0)]
    rw [hv]
    clear hv
    go_enter Try.func14, Try.ntmps14
    go_wp2_with fail
    go_ret
    exact ⟨rfl, Below.refl _ _⟩
  by_cases hil : (l.length : Int) ≤ i
  · have hv : apartI l i = 0 := by unfold apartI; rw [if_pos (.inr hil)]
    rw [hv]
    clear hv
    go_enter Try.func14, Try.ntmps14
    go_wp2_with fail
    go_ret
    exact ⟨rfl, Below.refl _ _⟩
  obtain ⟨k, rfl⟩ : ∃ k : Nat, i = (k : Int) := ⟨i.toNat, by omega⟩
  have hv : apartI l (k : Int) = rmsI (difC l k l.length) := by unfold apartI; rw [if_neg (by omega)]; rfl
  rw [hv]
  obtain ⟨i0, hi, hz0, hz1, hz2⟩ := info_parts info_i64C
  obtain ⟨ck, hck⟩ : ∃ c, l[k]? = some c := ⟨_, List.getElem?_eq_getElem (by omega)⟩
  obtain ⟨b, off, rfl⟩ := nd_some17 HS.out hck
  obtain ⟨x0, _, _, fb⟩ := nd_at17 HS.out hck
  have lb := hF b fb
  have k0 : (0 : Int) ≤ (k : Int) := by omega
  have k1 : (k : Int) < (l.length : Int) := by omega
  have kd : decide ((l.length : Int) ≤ (k : Int)) = false := decide_eq_false hil
  have kd' : decide (l.length ≤ k) = false := decide_eq_false (by omega)
  have hir : InR (difC l k l.length) := fun x hx => by
    obtain ⟨a, _, rfl⟩ := List.mem_map.1 hx
    have := cutI_range (offN l k - offN l a)
    unfold subI
    omega
  have HIR := Lib.hid hir
  have TL := Lib.hid tl
  have hm1 : ∀ W, (Instr.makeSlice 64 (.int .i64 0) (.int .i64 (l.length : Int))).run Try.prog W = .ok (.slice (some ⟨W.heap.size, 0, none⟩) 0 l.length) (W.alloc (.cells (madeCells #[.int .i64 0] l.length) 2)) := fun W => by
    have := run_make (P := Try.prog) W 64 2 i0 (.int .i64 0) Try.underlying64 hi hz0 .i64 .i64 0 l.length (by omega) (by omega) (by rw [hz2]; omega) (by omega)
    rw [hz1, show ((l.length : Int)).toNat = l.length by omega, Nat.mul_one] at this
    exact this
  generalize hRR : madeCells #[.int .i64 0] l.length = RR at hm1
  have hRs : RR.size = l.length * 1 := by rw [← hRR, size_madeCells, Nat.mul_one]
  have ownS := World.ownsRow_made (e := 2) (size := 1) (base := w.heap.size) w RR l.length (Nat.le_refl _) (by unfold maxLen; omega) hRs
  have bS := (Below.refl w.heap.size w).alloc (Nat.le_refl _) (.cells RR 2)
  have okk := off_isC hck
  have tk := (tl ck (List.mem_of_getElem? hck)).off
  clear hv hi0 hil hir tl ib hRR hRs
  go_enter Try.func14, Try.ntmps14
  go_upto_region 3 with fail
  go_wp2_with fail
  go_loopw [5, 21] (fun d j wr => ∃ n : Nat, n ≤ l.length ∧ j = .int .i64 (n : Int) ∧ wr.ownsRow w.heap.size 2 1 d (difC l k n).length ((difC l k n).map (Value.int .i64)) ∧ Below w.heap.size w wr) (fun _ j _ => l.length - (intOf j).toNat)
  case atStart => exact ⟨0, Nat.zero_le _, rfl, ownS, bS⟩
  case round =>
    obtain ⟨n, hn, rfl, own, hB⟩ := hrel
    clear ownS bS hm1
    have z1 := hB.size
    have hdl := difC_length l k n
    by_cases hlt : n < l.length
    · have hst := difC_step l k n
      have i1 : (n : Int) < l.length := by omega
      have n0 : (0 : Int) ≤ (n : Int) := by omega
      obtain ⟨c, hc⟩ : ∃ c, l[n]? = some c := ⟨_, List.getElem?_eq_getElem hlt⟩
      obtain ⟨y0, y1, y2, _⟩ := nd_at17 HS.out hc
      have e0 : wr.cell? ⟨b, off + n * 3, none⟩ = some (.int .i64 c.off) := by rw [hB.cell lb]; exact y0
      have e1 : wr.cell? ⟨b, off + n * 3 + 1, none⟩ = some (.int .i64 c.jit) := by rw [hB.cell lb]; exact y1
      have e2 : wr.cell? ⟨b, off + n * 3 + 2, none⟩ = some (.int .i64 c.met) := by rw [hB.cell lb]; exact y2
      have own1 := own.alloc (.cells #[.int .i64 c.off, .int .i64 c.jit, .int .i64 c.met] 40)
      have hB1 := hB.alloc z1 (.cells #[.int .i64 c.off, .int .i64 c.jit, .int .i64 c.met] 40)
      have hH := heap_alloc_new wr (.cells #[.int .i64 c.off, .int .i64 c.jit, .int .i64 c.met] 40)
      have hS1 := World.size_alloc wr (.cells #[.int .i64 c.off, .int .i64 c.jit, .int .i64 c.met] 40)
      have hap2 : ∀ g, u5.ownBlock = some g → g ≠ wr.heap.size := fun g hg e => by
        have := (own.lt g hg).2
        omega
      have HH := Lib.hid (And.intro own1 (And.intro hB1 (And.intro hH (And.intro hS1 hap2))))
      clear own hB y0 y1 y2 own1 hB1 hH hS1 hap2 z1
      go_upto_region 7 with fail
      obtain ⟨own, hB, hH, hS1, hap2⟩ := HH.out
      clear HH e0 e1 e2
      generalize wr.alloc (.cells #[.int .i64 c.off, .int .i64 c.jit, .int .i64 c.met] 40) = w2 at *
      generalize wr.heap.size = hh at *
      by_cases hnk : n = k
      · have e1 : ((n : Int) != (k : Int)) = false := by subst hnk; simp
        rw [if_pos hnk] at hst
        have OO := Lib.hid (And.intro hst (And.intro own hB))
        clear hst own hB hnk hck hc hap2 hH hS1
        go_wp2_with fail
        go_roundw
        case rel => exact ⟨n + 1, by omega, by go_num, by rw [OO.out.1]; exact OO.out.2.1, OO.out.2.2⟩
        case measure => simp [intOf]; omega
      · have tc := (TL.out c (List.mem_of_getElem? hc)).off
        have hm := sub_any ck.off c.off tk.1 tk.2 tc.1 tc.2
        have e1 : ((n : Int) != (k : Int)) = true := bne_iff_ne.2 (by omega)
        rw [if_neg hnk, okk, off_isC hc] at hst
        have z1 := hB.size
        have d1 : w2.cell? ⟨b, off + k * 3, none⟩ = some (.int .i64 ck.off) := by rw [hB.cell lb]; exact x0
        obtain ⟨d2, _, _, _⟩ := three_at17 hH
        have hap := own_apart own lb
        have hap3 : some hh ≠ u5.ownBlock := fun e => hap2 hh e.symm rfl
        have hbl : b < w2.heap.size := Nat.lt_of_lt_of_le lb z1
        have hhl : hh < w2.heap.size := by omega
        generalize subI ck.off c.off = y at *
        have ka1 : ((w2.alloc (.cells #[.int .i64 y] 2)).drew).cell? ⟨b, off + k * 3, none⟩ = some (.int .i64 ck.off) := (((Below.refl w2.heap.size w2).alloc (Nat.le_refl _) (.cells #[.int .i64 y] 2)).drew.cell hbl).trans d1
        have ka2 : ((w2.alloc (.cells #[.int .i64 y] 2)).drew).cell? ⟨hh, 0, none⟩ = some (.int .i64 c.off) := (((Below.refl w2.heap.size w2).alloc (Nat.le_refl _) (.cells #[.int .i64 y] 2)).drew.cell hhl).trans d2
        have HST := Lib.hid hst
        generalize difC l k n = D at *
        clear hst hc hnk hck okk hH hap2 hS1
        go_upto_region 8 with fail
        go_region_held3 (fun w' => w'.cell? ⟨b, off + k * 3, none⟩ = some (.int .i64 ck.off) ∧ w'.cell? ⟨hh, 0, none⟩ = some (.int .i64 c.off))
          (first
            | go_keep
            | (exact ⟨(hgrow.cell_far _ (by simp; omega) (Ne.symm hap)).trans ka1, (hgrow.cell_far _ (by simp; omega) hap3).trans ka2⟩))
          (first
            | (go_at_call 29; (with_reducible refine (hm _).mono ?_); rintro e w' ⟨rfl, rfl⟩)
            | (refine step_append_lies _ (by rfl) _ _ _ (by rfl) w.heap.size 2 i0 _ 1 8 Try.underlying64 hi hz0 hz1 hz2 rfl (by decide) _ D.length (D.map (Value.int .i64)) (by rfl) ((own.alloc _).drew)
                ⟨w2.heap.size, 0, none⟩ 1 1 [.int .i64 y] (by rfl) (by rfl) (World.news_of_block (cs := #[.int .i64 y]) (t := 2) (fr := (0, 0)) (heap_alloc_new w2 _)) (by simp [Value.oneCell']) (by omega) (by unfold maxLen; omega) (by omega) (by simp; omega) (w2.heap.size + 1) (by simp) ?_; intro gg cp w4 hown4 hgrow hat hglt))
        have own4 : w4.ownsRow w.heap.size 2 1 (.slice (some ⟨gg, 0, none⟩) (D.length + 1) cp) (difC l k (n + 1)).length ((difC l k (n + 1)).map (Value.int .i64)) := by
          rw [HST.out, List.map_append, List.length_append]
          exact hown4
        have B4 : Below w.heap.size w w4 := ((hB.alloc z1 (.cells #[.int .i64 y] 2)).drew).grown hgrow (by simp; omega) (fun g hg => (own.lt g hg).1)
        have OO := Lib.hid (And.intro own4 B4)
        clear hgrow hat hap own hown4 own4 B4 d1 d2 ka1 ka2 hap3
        go_wp2_with fail
        go_roundw
        case rel => exact ⟨n + 1, by omega, by go_num, OO.out.1, OO.out.2⟩
        case measure => simp [intOf]; omega
    · have enl : n = l.length := by omega
      subst enl
      generalize wr = wo at *
      obtain ⟨A, cap, rfl, hin⟩ := Ints.own own rfl
      have kr := froot_any (difC l k l.length) A cap HIR.out (by omega) wo hin
      have BB := Lib.hid hB
      clear hB own hin hdl hck okk
      go_wp2_with fail
      (with_reducible refine kr.mono ?_)
      rintro e w5 ⟨rfl, hb⟩
      have B5 := Lib.hid (BB.out.trans (hb.mono BB.out.size))
      clear hb kr
      go_wp2_with fail
      go_ret
      exact ⟨rfl, B5.out⟩
end Go.Proofs.Ytefjdmbioclddaa.W
