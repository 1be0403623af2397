/- Layer 17's own code, walked: both ends of a list. (Written by wip/genCnD.py.) -/
import Derived.Test.YtefjdmbioclddaaCnD
namespace Go.Proofs.Ytefjdmbioclddaa.W
open Go.RowKit Go.Sort
set_option linter.unusedVariables false
set_option linter.unusedSimpArgs false
set_option maxRecDepth 100000 in
set_option maxHeartbeats 12800000 in
theorem kendsp_any (cf : Nd → Nd → Int) (g : Nat) (eg : ∀ (args : Array Value) (w : World), (callFunc g args).run Try.prog w = .ok (.enter g args) w)
    (hc : ∀ (x y : Nd) (W : World), Calls Try.prog g #[x.val, y.val] W fun e w' => e = .returned (.int .i64 (cf x y)) ∧ Below W.heap.size W w')
    (l : List Nd) (hl : l.length ≤ 100000) {F : Nat → Prop} {v : Value} (w : World) (hs : SlAt F 3 ndC w v l) (hF : ∀ b, F b → b < w.heap.size) :
    Calls Try.prog 19 #[v, .func (.func g) #[] #[]] w fun e w' => e = .returned (.tuple #[(leastN cf l).val, (mostN cf l).val]) ∧ Below w.heap.size w w' := by
  obtain ⟨z0, z1, zB⟩ := two_nd17 w #[.int .i64 0, .int .i64 0, .int .i64 0] #[.int .i64 0, .int .i64 0, .int .i64 0] 53
  have zs : w.heap.size + 1 < ((w.alloc (.cells #[.int .i64 0, .int .i64 0, .int .i64 0] 53)).alloc (.cells #[.int .i64 0, .int .i64 0, .int .i64 0] 53)).heap.size := by rw [World.size_alloc, World.size_alloc]; omega
  by_cases h0 : l.length = 0
  · obtain rfl := List.eq_nil_of_length_eq_zero h0
    obtain ⟨vx, vc, rfl⟩ := hs.slice
    have el : (leastN cf []).val = .agg #[.int .i64 0, .int .i64 0, .int .i64 0] := rfl
    have em : (mostN cf []).val = .agg #[.int .i64 0, .int .i64 0, .int .i64 0] := rfl
    rw [el, em]
    clear el em hs hc eg
    rw [List.length_nil]
    go_enter Try.func19, Try.ntmps19
    go_upto_region 1 with fail
    generalize (w.alloc (.cells #[.int .i64 0, .int .i64 0, .int .i64 0] 53)).alloc (.cells #[.int .i64 0, .int .i64 0, .int .i64 0] 53) = w1 at *
    have ZZ := Lib.hid (And.intro z0 (And.intro z1 zB))
    obtain ⟨u0, u1, u2, uf⟩ := three_at17 z0
    obtain ⟨p0, p1, p2, pf⟩ := three_at17 z1
    clear z0 z1 zB
    go_upto_region 2 with fail
    go_region
    all_goals
      go_wp2_with fail
      have tA := set_below17 ZZ.out.2.2 (b := w.heap.size) (Nat.le_refl _) (.int .i64 0) (.int .i64 0) (.int .i64 0)
      have tB := set_below17 tA (b := w.heap.size + 1) (Nat.le_succ _) (.int .i64 0) (.int .i64 0) (.int .i64 0)
      exact bodyPost_ret (v := .tuple #[.agg #[.int .i64 0, .int .i64 0, .int .i64 0], .agg #[.int .i64 0, .int .i64 0, .int .i64 0]]) (by simp [results, Try.results19, go_sem, u0, u1, u2, p0, p1, p2]) rfl ⟨rfl, Below.drew tB⟩
  · have hpos : 0 < l.length := by omega
    have hs1 := hs.kept (fun b hb => zB.block b (hF b hb))
    have hF1 : ∀ b, F b → b < ((w.alloc (.cells #[.int .i64 0, .int .i64 0, .int .i64 0] 53)).alloc (.cells #[.int .i64 0, .int .i64 0, .int .i64 0] 53)).heap.size := fun b hb => Nat.lt_of_lt_of_le (hF b hb) zB.size
    have hlz : ((l.length : Int) == 0) = false := beq_eq_false_iff_ne.2 (by omega)
    have c1 := fun W (hk : SlAt F 3 ndC W v l) (hb : ∀ b, F b → b < W.heap.size) => kminp_any cf g eg hc l hpos hl W hk hb
    have c2 := fun W (hk : SlAt F 3 ndC W v l) (hb : ∀ b, F b → b < W.heap.size) => kmaxp_any cf g eg hc l hpos hl W hk hb
    obtain ⟨vx, vc, rfl⟩ := hs.slice
    generalize leastN cf l = a at *
    generalize mostN cf l = d at *
    unfold Nd.val at c1 c2 ⊢
    have C2 := Lib.hid c2
    clear hs hc eg hF c2
    go_enter Try.func19, Try.ntmps19
    go_upto_region 1 with fail
    generalize (w.alloc (.cells #[.int .i64 0, .int .i64 0, .int .i64 0] 53)).alloc (.cells #[.int .i64 0, .int .i64 0, .int .i64 0] 53) = w1 at *
    have ZZ := Lib.hid (And.intro z0 (And.intro z1 (And.intro zB (And.intro hs1 hF1))))
    replace c1 := c1 w1 hs1 hF1
    clear z0 z1 zB hs1 hF1 h0 hpos
    go_wp2_with fail
    (with_reducible refine c1.mono ?_)
    rintro e w2 ⟨rfl, hB1⟩
    obtain ⟨z0, z1, zB, hs1, hF1⟩ := ZZ.out
    have c2 := C2.out w2 (hs1.kept (fun b hb => hB1.block b (hF1 b hb))) (fun b hb => Nat.lt_of_lt_of_le (hF1 b hb) hB1.size)
    have Z2 := Lib.hid (And.intro (kept z0 hB1) (And.intro (kept z1 hB1) (And.intro (zB.trans (hB1.mono zB.size)) (Nat.lt_of_lt_of_le zs hB1.size))))
    clear z0 z1 zB hs1 hF1 hB1 C2 c1 ZZ
    go_wp2_with fail
    (with_reducible refine c2.mono ?_)
    rintro e w3 ⟨rfl, hB2⟩
    obtain ⟨z0, z1, zB, zl⟩ := Z2.out
    have y0 := kept z0 hB2
    have y1 := kept z1 hB2
    have Z3 := Lib.hid (zB.trans (hB2.mono zB.size))
    obtain ⟨u0, u1, u2, uf⟩ := three_at17 y0
    obtain ⟨p0, p1, p2, pf⟩ := three_at17 y1
    clear z0 z1 zB zl hB2 c2 Z2 y0 y1
    go_wp2_with fail
    have tA := set_below17 Z3.out (b := w.heap.size) (Nat.le_refl _) (.int .i64 a.off) (.int .i64 a.jit) (.int .i64 a.met)
    have tB := set_below17 tA (b := w.heap.size + 1) (Nat.le_succ _) (.int .i64 d.off) (.int .i64 d.jit) (.int .i64 d.met)
    exact bodyPost_ret (v := .tuple #[.agg #[.int .i64 a.off, .int .i64 a.jit, .int .i64 a.met], .agg #[.int .i64 d.off, .int .i64 d.jit, .int .i64 d.met]]) (by simp [results, Try.results19, go_sem, u0, u1, u2, p0, p1, p2]) rfl ⟨rfl, tB⟩
set_option maxRecDepth 100000 in
set_option maxHeartbeats 12800000 in
theorem kendsn_any (cf : Nd → Nd → Int) (g : Nat) (eg : ∀ (args : Array Value) (w : World), (callFunc g args).run Try.prog w = .ok (.enter g args) w)
    (hc : ∀ (x y : Nd) (W : World), Calls Try.prog g #[x.val, y.val] W fun e w' => e = .returned (.int .i64 (cf x y)) ∧ Below W.heap.size W w')
    (l : List Nd) (hl : l.length ≤ 100000) {F : Nat → Prop} {v : Value} (w : World) (hs : SlAt F 3 ndC w v l) (hF : ∀ b, F b → b < w.heap.size) :
    Calls Try.prog 33 #[v, .func (.func g) #[] #[]] w fun e w' => e = .returned (.tuple #[(leastN cf l).val, (mostN cf l).val]) ∧ Below w.heap.size w w' := by
  obtain ⟨z0, z1, zB⟩ := two_nd17 w #[.int .i64 0, .int .i64 0, .int .i64 0] #[.int .i64 0, .int .i64 0, .int .i64 0] 40
  have zs : w.heap.size + 1 < ((w.alloc (.cells #[.int .i64 0, .int .i64 0, .int .i64 0] 40)).alloc (.cells #[.int .i64 0, .int .i64 0, .int .i64 0] 40)).heap.size := by rw [World.size_alloc, World.size_alloc]; omega
  by_cases h0 : l.length = 0
  · obtain rfl := List.eq_nil_of_length_eq_zero h0
    obtain ⟨vx, vc, rfl⟩ := hs.slice
    have el : (leastN cf []).val = .agg #[.int .i64 0, .int .i64 0, .int .i64 0] := rfl
    have em : (mostN cf []).val = .agg #[.int .i64 0, .int .i64 0, .int .i64 0] := rfl
    rw [el, em]
    clear el em hs hc eg
    rw [List.length_nil]
    go_enter Try.func33, Try.ntmps33
    go_upto_region 1 with fail
    generalize (w.alloc (.cells #[.int .i64 0, .int .i64 0, .int .i64 0] 40)).alloc (.cells #[.int .i64 0, .int .i64 0, .int .i64 0] 40) = w1 at *
    have ZZ := Lib.hid (And.intro z0 (And.intro z1 zB))
    obtain ⟨u0, u1, u2, uf⟩ := three_at17 z0
    obtain ⟨p0, p1, p2, pf⟩ := three_at17 z1
    clear z0 z1 zB
    go_upto_region 2 with fail
    go_region
    all_goals
      go_wp2_with fail
      have tA := set_below17 ZZ.out.2.2 (b := w.heap.size) (Nat.le_refl _) (.int .i64 0) (.int .i64 0) (.int .i64 0)
      have tB := set_below17 tA (b := w.heap.size + 1) (Nat.le_succ _) (.int .i64 0) (.int .i64 0) (.int .i64 0)
      exact bodyPost_ret (v := .tuple #[.agg #[.int .i64 0, .int .i64 0, .int .i64 0], .agg #[.int .i64 0, .int .i64 0, .int .i64 0]]) (by simp [results, Try.results33, go_sem, u0, u1, u2, p0, p1, p2]) rfl ⟨rfl, Below.drew tB⟩
  · have hpos : 0 < l.length := by omega
    have hs1 := hs.kept (fun b hb => zB.block b (hF b hb))
    have hF1 : ∀ b, F b → b < ((w.alloc (.cells #[.int .i64 0, .int .i64 0, .int .i64 0] 40)).alloc (.cells #[.int .i64 0, .int .i64 0, .int .i64 0] 40)).heap.size := fun b hb => Nat.lt_of_lt_of_le (hF b hb) zB.size
    have hlz : ((l.length : Int) == 0) = false := beq_eq_false_iff_ne.2 (by omega)
    have c1 := fun W (hk : SlAt F 3 ndC W v l) (hb : ∀ b, F b → b < W.heap.size) => kminn_any cf g eg hc l hpos hl W hk hb
    have c2 := fun W (hk : SlAt F 3 ndC W v l) (hb : ∀ b, F b → b < W.heap.size) => kmaxn_any cf g eg hc l hpos hl W hk hb
    obtain ⟨vx, vc, rfl⟩ := hs.slice
    generalize leastN cf l = a at *
    generalize mostN cf l = d at *
    unfold Nd.val at c1 c2 ⊢
    have C2 := Lib.hid c2
    clear hs hc eg hF c2
    go_enter Try.func33, Try.ntmps33
    go_upto_region 1 with fail
    generalize (w.alloc (.cells #[.int .i64 0, .int .i64 0, .int .i64 0] 40)).alloc (.cells #[.int .i64 0, .int .i64 0, .int .i64 0] 40) = w1 at *
    have ZZ := Lib.hid (And.intro z0 (And.intro z1 (And.intro zB (And.intro hs1 hF1))))
    replace c1 := c1 w1 hs1 hF1
    clear z0 z1 zB hs1 hF1 h0 hpos
    go_wp2_with fail
    (with_reducible refine c1.mono ?_)
    rintro e w2 ⟨rfl, hB1⟩
    obtain ⟨z0, z1, zB, hs1, hF1⟩ := ZZ.out
    have c2 := C2.out w2 (hs1.kept (fun b hb => hB1.block b (hF1 b hb))) (fun b hb => Nat.lt_of_lt_of_le (hF1 b hb) hB1.size)
    have Z2 := Lib.hid (And.intro (kept z0 hB1) (And.intro (kept z1 hB1) (And.intro (zB.trans (hB1.mono zB.size)) (Nat.lt_of_lt_of_le zs hB1.size))))
    clear z0 z1 zB hs1 hF1 hB1 C2 c1 ZZ
    go_wp2_with fail
    (with_reducible refine c2.mono ?_)
    rintro e w3 ⟨rfl, hB2⟩
    obtain ⟨z0, z1, zB, zl⟩ := Z2.out
    have y0 := kept z0 hB2
    have y1 := kept z1 hB2
    have Z3 := Lib.hid (zB.trans (hB2.mono zB.size))
    obtain ⟨u0, u1, u2, uf⟩ := three_at17 y0
    obtain ⟨p0, p1, p2, pf⟩ := three_at17 y1
    clear z0 z1 zB zl hB2 c2 Z2 y0 y1
    go_wp2_with fail
    have tA := set_below17 Z3.out (b := w.heap.size) (Nat.le_refl _) (.int .i64 a.off) (.int .i64 a.jit) (.int .i64 a.met)
    have tB := set_below17 tA (b := w.heap.size + 1) (Nat.le_succ _) (.int .i64 d.off) (.int .i64 d.jit) (.int .i64 d.met)
    exact bodyPost_ret (v := .tuple #[.agg #[.int .i64 a.off, .int .i64 a.jit, .int .i64 a.met], .agg #[.int .i64 d.off, .int .i64 d.jit, .int .i64 d.met]]) (by simp [results, Try.results33, go_sem, u0, u1, u2, p0, p1, p2]) rfl ⟨rfl, tB⟩
end Go.Proofs.Ytefjdmbioclddaa.W
