/- Layer 17's own code, walked: the ends of a list, by a function value. (Written by wip/genCnD.py.) -/
import Derived.Test.YtefjdmbioclddaaCnC
import Derived.Shelf.Abstract
namespace Go.Proofs.Ytefjdmbioclddaa.W
open Go.RowKit Go.Sort
set_option linter.unusedVariables false
set_option linter.unusedSimpArgs false
/-- The one of the first k + 1 that is taken, if one is taken for another where t says so. -/
def pkN (t : Int → Bool) (cf : Nd → Nd → Int) (l : List Nd) : Nat → Nd
  | 0 => l.getD 0 Nd.zero
  | k + 1 => if t (cf (l.getD (k + 1) Nd.zero) (pkN t cf l k)) = true then l.getD (k + 1) Nd.zero else pkN t cf l k
def lessT (x : Int) : Bool := decide (x < 0)
def moreT (x : Int) : Bool := decide (0 < x)
def leastN (cf : Nd → Nd → Int) (l : List Nd) : Nd := pkN lessT cf l (l.length - 1)
def mostN (cf : Nd → Nd → Int) (l : List Nd) : Nd := pkN moreT cf l (l.length - 1)
theorem pk_next (t : Int → Bool) (cf : Nd → Nd → Int) (l : List Nd) {n : Nat} (h1 : 1 ≤ n) {c : Nd} (hc : l[n]? = some c) : pkN t cf l n = if t (cf c (pkN t cf l (n - 1))) = true then c else pkN t cf l (n - 1) := by
  obtain ⟨k, rfl⟩ : ∃ k, n = k + 1 := ⟨n - 1, by omega⟩
  have e : l.getD (k + 1) Nd.zero = c := by simp [List.getD, hc]
  show (if t (cf (l.getD (k + 1) Nd.zero) (pkN t cf l k)) = true then l.getD (k + 1) Nd.zero else pkN t cf l k) = _
  rw [e]
  rfl
/-- A node of a slice, in its cells. -/
theorem nd_at17 {l : List Nd} {F : Nat → Prop} {w : World} {b off cap n : Nat} (hs : SlAt F 3 ndC w (.slice (some ⟨b, off, none⟩) n cap) l) {i : Nat} {c : Nd} (hx : l[i]? = some c) : w.cell? ⟨b, off + i * 3, none⟩ = some (.int .i64 c.off) ∧ w.cell? ⟨b, off + i * 3 + 1, none⟩ = some (.int .i64 c.jit) ∧ w.cell? ⟨b, off + i * 3 + 2, none⟩ = some (.int .i64 c.met) ∧ F b := by
  rcases hs with ⟨_, _, _, _, hnil⟩ | ⟨b', off', cap', hv, hF, hc⟩
  · rw [hnil] at hx
    cases hx
  · obtain ⟨e1, _, _⟩ := Value.slice.inj hv
    obtain ⟨rfl, rfl⟩ : b = b' ∧ off = off' := by simpa using e1
    exact ⟨hc i c hx 0 _ rfl, hc i c hx 1 _ rfl, hc i c hx 2 _ rfl, hF⟩
theorem nd_some17 {l : List Nd} {F : Nat → Prop} {w : World} {a : Option Addr} {n cap : Nat} (hs : SlAt F 3 ndC w (.slice a n cap) l) {i : Nat} {c : Nd} (hx : l[i]? = some c) : ∃ b off, a = some ⟨b, off, none⟩ := by
  rcases hs with ⟨_, _, _, _, hnil⟩ | ⟨b', off', cap', hv, hF, hc⟩
  · rw [hnil] at hx
    cases hx
  · exact ⟨b', off', (Value.slice.inj hv).1⟩
/-- A node stored over another one. -/
theorem set_nd17 {w : World} {b : Nat} {x y z x' y' z' : Value} {t : TypeId} (h : w.heap[b]? = some (.cells #[x, y, z] t (0, 0))) : (((w.setCell ⟨b, 0, none⟩ x').setCell ⟨b, 1, none⟩ y').setCell ⟨b, 2, none⟩ z').heap[b]? = some (.cells #[x', y', z'] t (0, 0)) := by
  have h1 := block_set 0 x' h
  have h2 := block_set 1 y' h1
  exact block_set 2 z' h2
theorem set_far17 {w : World} {b k : Nat} {x' y' z' : Value} {o : Obj} (h : w.heap[k]? = some o) (hk : k ≠ b) : (((w.setCell ⟨b, 0, none⟩ x').setCell ⟨b, 1, none⟩ y').setCell ⟨b, 2, none⟩ z').heap[k]? = some o := by
  rw [block_far _ _ hk, block_far _ _ hk, block_far _ _ hk]
  exact h
theorem set_below17 {B : Nat} {w0 w : World} {b : Nat} (h : Below B w0 w) (hb : B ≤ b) (x' y' z' : Value) : Below B w0 (((w.setCell ⟨b, 0, none⟩ x').setCell ⟨b, 1, none⟩ y').setCell ⟨b, 2, none⟩ z') :=
  ((h.setCell (p := ⟨b, 0, none⟩) hb x').setCell (p := ⟨b, 1, none⟩) hb y').setCell (p := ⟨b, 2, none⟩) hb z'
theorem again17 {w w' : World} (h : ∃ p : Regrown, w' = grow (redrawn w p.d) p.os) : Below w.heap.size w w' := by
  obtain ⟨p, rfl⟩ := h
  exact below_regrown w p.d p.os
set_option maxRecDepth 100000 in
set_option maxHeartbeats 12800000 in
theorem kminp_any (cf : Nd → Nd → Int) (g : Nat) (eg : ∀ (args : Array Value) (w : World), (callFunc g args).run Try.prog w = .ok (.enter g args) w)
    (hc : ∀ (x y : Nd) (W : World), Calls Try.prog g #[x.val, y.val] W fun e w' => e = .returned (.int .i64 (cf x y)) ∧ Below W.heap.size W w')
    (l : List Nd) (h0 : 0 < l.length) (hl : l.length ≤ 100000) {F : Nat → Prop} {v : Value} (w : World) (hs : SlAt F 3 ndC w v l) (hF : ∀ b, F b → b < w.heap.size) :
    Calls Try.prog 35 #[v, .func (.func g) #[] #[]] w fun e w' => e = .returned (leastN cf l).val ∧ Below w.heap.size w w' := by
  have HS := Lib.hid hs
  have HC := Lib.hid hc
  obtain ⟨vx, vc, rfl⟩ := hs.slice
  obtain ⟨c0, hc0⟩ : ∃ c, l[0]? = some c := ⟨_, List.getElem?_eq_getElem h0⟩
  obtain ⟨b, off, rfl⟩ := nd_some17 hs hc0
  obtain ⟨x0, x1, x2, fb⟩ := nd_at17 hs hc0
  rw [Nat.zero_mul, Nat.add_zero] at x0 x1 x2
  have lb := hF b fb
  have hlz : ((l.length : Int) < 1) = False := by simp; omega
  have hlz' : ¬ (l.length : Int) < 1 := by omega
  have i0 : (0 : Int) < (l.length : Int) := by omega
  have e0 : pkN lessT cf l 0 = c0 := by show l.getD 0 Nd.zero = c0; simp [List.getD, hc0]
  have P0 := Lib.hid e0
  have hr : leastN cf l = pkN lessT cf l (l.length - 1) := rfl
  have HR := Lib.hid hr
  clear hs hc hr e0
  go_enter Try.func35, Try.ntmps35
  go_upto_region 4 with fail
  obtain ⟨z0, z1, zB⟩ := two_nd17 w #[.int .i64 0, .int .i64 0, .int .i64 0] #[.int .i64 c0.off, .int .i64 c0.jit, .int .i64 c0.met] 53
  generalize (w.alloc (.cells #[.int .i64 0, .int .i64 0, .int .i64 0] 53)).alloc (.cells #[.int .i64 c0.off, .int .i64 c0.jit, .int .i64 c0.met] 53) = w1 at *
  clear x0 x1 x2 hlz hlz' fb
  have ZZ := Lib.hid (And.intro z0 (And.intro z1 zB))
  clear z0 z1 zB
  go_wp2_with fail
  go_loopw [6] (fun i wr => ∃ (n : Nat) (m : Nd), 1 ≤ n ∧ n ≤ l.length ∧ i = .int .i64 (n : Int) ∧ Hid (pkN lessT cf l (n - 1) = m) ∧ Hid (wr.heap[w.heap.size]? = some (.cells #[.int .i64 0, .int .i64 0, .int .i64 0] 53 (0, 0)) ∧ wr.heap[w.heap.size + 1]? = some (.cells #[.int .i64 m.off, .int .i64 m.jit, .int .i64 m.met] 53 (0, 0)) ∧ Below w.heap.size w wr)) (fun i _ => l.length - (intOf i).toNat)
  case atStart => exact ⟨1, c0, Nat.le_refl _, h0, rfl, P0, ZZ⟩
  case round =>
    clear ZZ P0
    obtain ⟨n, m, h1, hn, rfl, PM, ZM⟩ := hrel
    by_cases hlt : n < l.length
    · obtain ⟨c, hcn⟩ : ∃ c, l[n]? = some c := ⟨_, List.getElem?_eq_getElem hlt⟩
      have i1 : (n : Int) < l.length := by omega
      have i0' : (0 : Int) ≤ (n : Int) := by omega
      obtain ⟨y0, y1, y2, _⟩ := nd_at17 HS.out hcn
      obtain ⟨q0, q1, hB⟩ := ZM.out
      have nx := pk_next lessT cf l h1 hcn
      rw [PM.out] at nx
      have cc := HC.out c m
      obtain ⟨z, hz⟩ : ∃ z, cf c m = z := ⟨_, rfl⟩
      rw [hz] at nx cc
      have NX := Lib.hid nx
      unfold Nd.val at cc
      have v0 : wr.cell? ⟨b, off + n * 3, none⟩ = some (.int .i64 c.off) := by rw [hB.cell lb]; exact y0
      have v1 : wr.cell? ⟨b, off + n * 3 + 1, none⟩ = some (.int .i64 c.jit) := by rw [hB.cell lb]; exact y1
      have v2 : wr.cell? ⟨b, off + n * 3 + 2, none⟩ = some (.int .i64 c.met) := by rw [hB.cell lb]; exact y2
      obtain ⟨u0, u1, u2, _⟩ := three_at17 q1
      have lbr := Nat.lt_of_lt_of_le lb hB.size
      have k0 := cell_regrown v0
      have k1 := cell_regrown v1
      have k2 := cell_regrown v2
      have k3 := cell_regrown u0
      have k4 := cell_regrown u1
      have k5 := cell_regrown u2
      have d1 := fun d os => Calls.regrown_of (cc (grow (redrawn wr d) os))
      have VV := Lib.hid (And.intro v0 (And.intro v1 v2))
      clear hcn y0 y1 y2 hz cc nx PM q0 q1 hB v0 v1 v2 u0 u1 u2
      go_upto_region 7 with fail
      refine wp_region_quiet_below (by kernel_rfl) (by kernel_rfl) ?_
      repeat (quiet_step (first | (go_at_fn g; with_reducible exact d1 _ _)))
      refine wpQuiet_nil ?_
      intro w2 hw
      replace hw := again17 hw
      obtain ⟨v0, v1, v2⟩ := VV.out
      replace v0 := (hw.cell lbr).trans v0
      replace v1 := (hw.cell lbr).trans v1
      replace v2 := (hw.cell lbr).trans v2
      obtain ⟨q0, q1, hB⟩ := ZM.out
      replace q0 := kept q0 hw
      replace q1 := kept q1 hw
      replace hB := hB.trans (hw.mono hB.size)
      obtain ⟨u0, u1, u2, uf⟩ := three_at17 q1
      have QQ := Lib.hid (And.intro q0 (And.intro q1 hB))
      clear q0 q1 hB hw k0 k1 k2 k3 k4 k5 d1 ZM VV
      by_cases hz : z < 0
      · have hzd : decide (z < 0) = true := decide_eq_true hz
        have e := NX.out
        rw [if_pos (by unfold lessT; exact hzd)] at e
        have NE := Lib.hid e
        clear NX e
        go_wp2_with fail
        obtain ⟨q0, q1, hB⟩ := QQ.out
        have t0 := set_far17 (b := w.heap.size + 1) (x' := .int .i64 c.off) (y' := .int .i64 c.jit) (z' := .int .i64 c.met) q0 (by omega)
        have t1 := set_nd17 (x' := .int .i64 c.off) (y' := .int .i64 c.jit) (z' := .int .i64 c.met) q1
        have tB := set_below17 hB (b := w.heap.size + 1) (by omega) (.int .i64 c.off) (.int .i64 c.jit) (.int .i64 c.met)
        have TT := Lib.hid (And.intro t0 (And.intro t1 tB))
        clear q0 q1 hB t0 t1 tB QQ
        go_roundw
        case rel => exact ⟨n + 1, c, by omega, by omega, by go_num, NE, TT⟩
        case measure => simp [intOf]; omega
      · have hzd : decide (z < 0) = false := decide_eq_false hz
        have e := NX.out
        rw [if_neg (by unfold lessT; rw [hzd]; decide)] at e
        have NE := Lib.hid e
        clear NX e
        go_wp2_with fail
        go_roundw
        case rel => exact ⟨n + 1, m, by omega, by omega, by go_num, NE, QQ⟩
        case measure => simp [intOf]; omega
    · have enl : n = l.length := by omega
      subst enl
      have i1 : ¬ (l.length : Int) < l.length := by omega
      obtain ⟨q0, q1, hB⟩ := ZM.out
      obtain ⟨u0, u1, u2, uf⟩ := three_at17 q1
      obtain ⟨p0, p1, p2, pf⟩ := three_at17 q0
      have er : leastN cf l = m := HR.out.trans PM.out
      have EE := Lib.hid er
      have tB := set_below17 hB (b := w.heap.size) (Nat.le_refl _) (.int .i64 m.off) (.int .i64 m.jit) (.int .i64 m.met)
      have BB := Lib.hid tB
      have G0 := Lib.hid q0
      clear q0 q1 hB ZM er PM HR tB
      go_wp2_with fail
      rw [EE.out]
      have g0 := set_nd17 (x' := .int .i64 m.off) (y' := .int .i64 m.jit) (z' := .int .i64 m.met) G0.out
      obtain ⟨r0, r1, r2, _⟩ := three_at17 g0
      exact bodyPost_ret (v := .agg #[.int .i64 m.off, .int .i64 m.jit, .int .i64 m.met]) (by simp [results, Try.results35, go_sem, r0, r1, r2]) rfl ⟨rfl, BB.out⟩
set_option maxRecDepth 100000 in
set_option maxHeartbeats 12800000 in
theorem kmaxp_any (cf : Nd → Nd → Int) (g : Nat) (eg : ∀ (args : Array Value) (w : World), (callFunc g args).run Try.prog w = .ok (.enter g args) w)
    (hc : ∀ (x y : Nd) (W : World), Calls Try.prog g #[x.val, y.val] W fun e w' => e = .returned (.int .i64 (cf x y)) ∧ Below W.heap.size W w')
    (l : List Nd) (h0 : 0 < l.length) (hl : l.length ≤ 100000) {F : Nat → Prop} {v : Value} (w : World) (hs : SlAt F 3 ndC w v l) (hF : ∀ b, F b → b < w.heap.size) :
    Calls Try.prog 36 #[v, .func (.func g) #[] #[]] w fun e w' => e = .returned (mostN cf l).val ∧ Below w.heap.size w w' := by
  have HS := Lib.hid hs
  have HC := Lib.hid hc
  obtain ⟨vx, vc, rfl⟩ := hs.slice
  obtain ⟨c0, hc0⟩ : ∃ c, l[0]? = some c := ⟨_, List.getElem?_eq_getElem h0⟩
  obtain ⟨b, off, rfl⟩ := nd_some17 hs hc0
  obtain ⟨x0, x1, x2, fb⟩ := nd_at17 hs hc0
  rw [Nat.zero_mul, Nat.add_zero] at x0 x1 x2
  have lb := hF b fb
  have hlz : ((l.length : Int) < 1) = False := by simp; omega
  have hlz' : ¬ (l.length : Int) < 1 := by omega
  have i0 : (0 : Int) < (l.length : Int) := by omega
  have e0 : pkN moreT cf l 0 = c0 := by show l.getD 0 Nd.zero = c0; simp [List.getD, hc0]
  have P0 := Lib.hid e0
  have hr : mostN cf l = pkN moreT cf l (l.length - 1) := rfl
  have HR := Lib.hid hr
  clear hs hc hr e0
  go_enter Try.func36, Try.ntmps36
  go_upto_region 4 with fail
  obtain ⟨z0, z1, zB⟩ := two_nd17 w #[.int .i64 0, .int .i64 0, .int .i64 0] #[.int .i64 c0.off, .int .i64 c0.jit, .int .i64 c0.met] 53
  generalize (w.alloc (.cells #[.int .i64 0, .int .i64 0, .int .i64 0] 53)).alloc (.cells #[.int .i64 c0.off, .int .i64 c0.jit, .int .i64 c0.met] 53) = w1 at *
  clear x0 x1 x2 hlz hlz' fb
  have ZZ := Lib.hid (And.intro z0 (And.intro z1 zB))
  clear z0 z1 zB
  go_wp2_with fail
  go_loopw [6] (fun i wr => ∃ (n : Nat) (m : Nd), 1 ≤ n ∧ n ≤ l.length ∧ i = .int .i64 (n : Int) ∧ Hid (pkN moreT cf l (n - 1) = m) ∧ Hid (wr.heap[w.heap.size]? = some (.cells #[.int .i64 0, .int .i64 0, .int .i64 0] 53 (0, 0)) ∧ wr.heap[w.heap.size + 1]? = some (.cells #[.int .i64 m.off, .int .i64 m.jit, .int .i64 m.met] 53 (0, 0)) ∧ Below w.heap.size w wr)) (fun i _ => l.length - (intOf i).toNat)
  case atStart => exact ⟨1, c0, Nat.le_refl _, h0, rfl, P0, ZZ⟩
  case round =>
    clear ZZ P0
    obtain ⟨n, m, h1, hn, rfl, PM, ZM⟩ := hrel
    by_cases hlt : n < l.length
    · obtain ⟨c, hcn⟩ : ∃ c, l[n]? = some c := ⟨_, List.getElem?_eq_getElem hlt⟩
      have i1 : (n : Int) < l.length := by omega
      have i0' : (0 : Int) ≤ (n : Int) := by omega
      obtain ⟨y0, y1, y2, _⟩ := nd_at17 HS.out hcn
      obtain ⟨q0, q1, hB⟩ := ZM.out
      have nx := pk_next moreT cf l h1 hcn
      rw [PM.out] at nx
      have cc := HC.out c m
      obtain ⟨z, hz⟩ : ∃ z, cf c m = z := ⟨_, rfl⟩
      rw [hz] at nx cc
      have NX := Lib.hid nx
      unfold Nd.val at cc
      have v0 : wr.cell? ⟨b, off + n * 3, none⟩ = some (.int .i64 c.off) := by rw [hB.cell lb]; exact y0
      have v1 : wr.cell? ⟨b, off + n * 3 + 1, none⟩ = some (.int .i64 c.jit) := by rw [hB.cell lb]; exact y1
      have v2 : wr.cell? ⟨b, off + n * 3 + 2, none⟩ = some (.int .i64 c.met) := by rw [hB.cell lb]; exact y2
      obtain ⟨u0, u1, u2, _⟩ := three_at17 q1
      have lbr := Nat.lt_of_lt_of_le lb hB.size
      have k0 := cell_regrown v0
      have k1 := cell_regrown v1
      have k2 := cell_regrown v2
      have k3 := cell_regrown u0
      have k4 := cell_regrown u1
      have k5 := cell_regrown u2
      have d1 := fun d os => Calls.regrown_of (cc (grow (redrawn wr d) os))
      have VV := Lib.hid (And.intro v0 (And.intro v1 v2))
      clear hcn y0 y1 y2 hz cc nx PM q0 q1 hB v0 v1 v2 u0 u1 u2
      go_upto_region 7 with fail
      refine wp_region_quiet_below (by kernel_rfl) (by kernel_rfl) ?_
      repeat (quiet_step (first | (go_at_fn g; with_reducible exact d1 _ _)))
      refine wpQuiet_nil ?_
      intro w2 hw
      replace hw := again17 hw
      obtain ⟨v0, v1, v2⟩ := VV.out
      replace v0 := (hw.cell lbr).trans v0
      replace v1 := (hw.cell lbr).trans v1
      replace v2 := (hw.cell lbr).trans v2
      obtain ⟨q0, q1, hB⟩ := ZM.out
      replace q0 := kept q0 hw
      replace q1 := kept q1 hw
      replace hB := hB.trans (hw.mono hB.size)
      obtain ⟨u0, u1, u2, uf⟩ := three_at17 q1
      have QQ := Lib.hid (And.intro q0 (And.intro q1 hB))
      clear q0 q1 hB hw k0 k1 k2 k3 k4 k5 d1 ZM VV
      by_cases hz : 0 < z
      · have hzd : decide (0 < z) = true := decide_eq_true hz
        have e := NX.out
        rw [if_pos (by unfold moreT; exact hzd)] at e
        have NE := Lib.hid e
        clear NX e
        go_wp2_with fail
        obtain ⟨q0, q1, hB⟩ := QQ.out
        have t0 := set_far17 (b := w.heap.size + 1) (x' := .int .i64 c.off) (y' := .int .i64 c.jit) (z' := .int .i64 c.met) q0 (by omega)
        have t1 := set_nd17 (x' := .int .i64 c.off) (y' := .int .i64 c.jit) (z' := .int .i64 c.met) q1
        have tB := set_below17 hB (b := w.heap.size + 1) (by omega) (.int .i64 c.off) (.int .i64 c.jit) (.int .i64 c.met)
        have TT := Lib.hid (And.intro t0 (And.intro t1 tB))
        clear q0 q1 hB t0 t1 tB QQ
        go_roundw
        case rel => exact ⟨n + 1, c, by omega, by omega, by go_num, NE, TT⟩
        case measure => simp [intOf]; omega
      · have hzd : decide (0 < z) = false := decide_eq_false hz
        have e := NX.out
        rw [if_neg (by unfold moreT; rw [hzd]; decide)] at e
        have NE := Lib.hid e
        clear NX e
        go_wp2_with fail
        go_roundw
        case rel => exact ⟨n + 1, m, by omega, by omega, by go_num, NE, QQ⟩
        case measure => simp [intOf]; omega
    · have enl : n = l.length := by omega
      subst enl
      have i1 : ¬ (l.length : Int) < l.length := by omega
      obtain ⟨q0, q1, hB⟩ := ZM.out
      obtain ⟨u0, u1, u2, uf⟩ := three_at17 q1
      obtain ⟨p0, p1, p2, pf⟩ := three_at17 q0
      have er : mostN cf l = m := HR.out.trans PM.out
      have EE := Lib.hid er
      have tB := set_below17 hB (b := w.heap.size) (Nat.le_refl _) (.int .i64 m.off) (.int .i64 m.jit) (.int .i64 m.met)
      have BB := Lib.hid tB
      have G0 := Lib.hid q0
      clear q0 q1 hB ZM er PM HR tB
      go_wp2_with fail
      rw [EE.out]
      have g0 := set_nd17 (x' := .int .i64 m.off) (y' := .int .i64 m.jit) (z' := .int .i64 m.met) G0.out
      obtain ⟨r0, r1, r2, _⟩ := three_at17 g0
      exact bodyPost_ret (v := .agg #[.int .i64 m.off, .int .i64 m.jit, .int .i64 m.met]) (by simp [results, Try.results36, go_sem, r0, r1, r2]) rfl ⟨rfl, BB.out⟩
set_option maxRecDepth 100000 in
set_option maxHeartbeats 12800000 in
theorem kminn_any (cf : Nd → Nd → Int) (g : Nat) (eg : ∀ (args : Array Value) (w : World), (callFunc g args).run Try.prog w = .ok (.enter g args) w)
    (hc : ∀ (x y : Nd) (W : World), Calls Try.prog g #[x.val, y.val] W fun e w' => e = .returned (.int .i64 (cf x y)) ∧ Below W.heap.size W w')
    (l : List Nd) (h0 : 0 < l.length) (hl : l.length ≤ 100000) {F : Nat → Prop} {v : Value} (w : World) (hs : SlAt F 3 ndC w v l) (hF : ∀ b, F b → b < w.heap.size) :
    Calls Try.prog 50 #[v, .func (.func g) #[] #[]] w fun e w' => e = .returned (leastN cf l).val ∧ Below w.heap.size w w' := by
  have HS := Lib.hid hs
  have HC := Lib.hid hc
  obtain ⟨vx, vc, rfl⟩ := hs.slice
  obtain ⟨c0, hc0⟩ : ∃ c, l[0]? = some c := ⟨_, List.getElem?_eq_getElem h0⟩
  obtain ⟨b, off, rfl⟩ := nd_some17 hs hc0
  obtain ⟨x0, x1, x2, fb⟩ := nd_at17 hs hc0
  rw [Nat.zero_mul, Nat.add_zero] at x0 x1 x2
  have lb := hF b fb
  have hlz : ((l.length : Int) < 1) = False := by simp; omega
  have hlz' : ¬ (l.length : Int) < 1 := by omega
  have i0 : (0 : Int) < (l.length : Int) := by omega
  have e0 : pkN lessT cf l 0 = c0 := by show l.getD 0 Nd.zero = c0; simp [List.getD, hc0]
  have P0 := Lib.hid e0
  have hr : leastN cf l = pkN lessT cf l (l.length - 1) := rfl
  have HR := Lib.hid hr
  clear hs hc hr e0
  go_enter Try.func50, Try.ntmps50
  go_upto_region 4 with fail
  obtain ⟨z0, z1, zB⟩ := two_nd17 w #[.int .i64 0, .int .i64 0, .int .i64 0] #[.int .i64 c0.off, .int .i64 c0.jit, .int .i64 c0.met] 40
  generalize (w.alloc (.cells #[.int .i64 0, .int .i64 0, .int .i64 0] 40)).alloc (.cells #[.int .i64 c0.off, .int .i64 c0.jit, .int .i64 c0.met] 40) = w1 at *
  clear x0 x1 x2 hlz hlz' fb
  have ZZ := Lib.hid (And.intro z0 (And.intro z1 zB))
  clear z0 z1 zB
  go_wp2_with fail
  go_loopw [6] (fun i wr => ∃ (n : Nat) (m : Nd), 1 ≤ n ∧ n ≤ l.length ∧ i = .int .i64 (n : Int) ∧ Hid (pkN lessT cf l (n - 1) = m) ∧ Hid (wr.heap[w.heap.size]? = some (.cells #[.int .i64 0, .int .i64 0, .int .i64 0] 40 (0, 0)) ∧ wr.heap[w.heap.size + 1]? = some (.cells #[.int .i64 m.off, .int .i64 m.jit, .int .i64 m.met] 40 (0, 0)) ∧ Below w.heap.size w wr)) (fun i _ => l.length - (intOf i).toNat)
  case atStart => exact ⟨1, c0, Nat.le_refl _, h0, rfl, P0, ZZ⟩
  case round =>
    clear ZZ P0
    obtain ⟨n, m, h1, hn, rfl, PM, ZM⟩ := hrel
    by_cases hlt : n < l.length
    · obtain ⟨c, hcn⟩ : ∃ c, l[n]? = some c := ⟨_, List.getElem?_eq_getElem hlt⟩
      have i1 : (n : Int) < l.length := by omega
      have i0' : (0 : Int) ≤ (n : Int) := by omega
      obtain ⟨y0, y1, y2, _⟩ := nd_at17 HS.out hcn
      obtain ⟨q0, q1, hB⟩ := ZM.out
      have nx := pk_next lessT cf l h1 hcn
      rw [PM.out] at nx
      have cc := HC.out c m
      obtain ⟨z, hz⟩ : ∃ z, cf c m = z := ⟨_, rfl⟩
      rw [hz] at nx cc
      have NX := Lib.hid nx
      unfold Nd.val at cc
      have v0 : wr.cell? ⟨b, off + n * 3, none⟩ = some (.int .i64 c.off) := by rw [hB.cell lb]; exact y0
      have v1 : wr.cell? ⟨b, off + n * 3 + 1, none⟩ = some (.int .i64 c.jit) := by rw [hB.cell lb]; exact y1
      have v2 : wr.cell? ⟨b, off + n * 3 + 2, none⟩ = some (.int .i64 c.met) := by rw [hB.cell lb]; exact y2
      obtain ⟨u0, u1, u2, _⟩ := three_at17 q1
      have lbr := Nat.lt_of_lt_of_le lb hB.size
      have k0 := cell_regrown v0
      have k1 := cell_regrown v1
      have k2 := cell_regrown v2
      have k3 := cell_regrown u0
      have k4 := cell_regrown u1
      have k5 := cell_regrown u2
      have d1 := fun d os => Calls.regrown_of (cc (grow (redrawn wr d) os))
      have VV := Lib.hid (And.intro v0 (And.intro v1 v2))
      clear hcn y0 y1 y2 hz cc nx PM q0 q1 hB v0 v1 v2 u0 u1 u2
      go_upto_region 7 with fail
      refine wp_region_quiet_below (by kernel_rfl) (by kernel_rfl) ?_
      repeat (quiet_step (first | (go_at_fn g; with_reducible exact d1 _ _)))
      refine wpQuiet_nil ?_
      intro w2 hw
      replace hw := again17 hw
      obtain ⟨v0, v1, v2⟩ := VV.out
      replace v0 := (hw.cell lbr).trans v0
      replace v1 := (hw.cell lbr).trans v1
      replace v2 := (hw.cell lbr).trans v2
      obtain ⟨q0, q1, hB⟩ := ZM.out
      replace q0 := kept q0 hw
      replace q1 := kept q1 hw
      replace hB := hB.trans (hw.mono hB.size)
      obtain ⟨u0, u1, u2, uf⟩ := three_at17 q1
      have QQ := Lib.hid (And.intro q0 (And.intro q1 hB))
      clear q0 q1 hB hw k0 k1 k2 k3 k4 k5 d1 ZM VV
      by_cases hz : z < 0
      · have hzd : decide (z < 0) = true := decide_eq_true hz
        have e := NX.out
        rw [if_pos (by unfold lessT; exact hzd)] at e
        have NE := Lib.hid e
        clear NX e
        go_wp2_with fail
        obtain ⟨q0, q1, hB⟩ := QQ.out
        have t0 := set_far17 (b := w.heap.size + 1) (x' := .int .i64 c.off) (y' := .int .i64 c.jit) (z' := .int .i64 c.met) q0 (by omega)
        have t1 := set_nd17 (x' := .int .i64 c.off) (y' := .int .i64 c.jit) (z' := .int .i64 c.met) q1
        have tB := set_below17 hB (b := w.heap.size + 1) (by omega) (.int .i64 c.off) (.int .i64 c.jit) (.int .i64 c.met)
        have TT := Lib.hid (And.intro t0 (And.intro t1 tB))
        clear q0 q1 hB t0 t1 tB QQ
        go_roundw
        case rel => exact ⟨n + 1, c, by omega, by omega, by go_num, NE, TT⟩
        case measure => simp [intOf]; omega
      · have hzd : decide (z < 0) = false := decide_eq_false hz
        have e := NX.out
        rw [if_neg (by unfold lessT; rw [hzd]; decide)] at e
        have NE := Lib.hid e
        clear NX e
        go_wp2_with fail
        go_roundw
        case rel => exact ⟨n + 1, m, by omega, by omega, by go_num, NE, QQ⟩
        case measure => simp [intOf]; omega
    · have enl : n = l.length := by omega
      subst enl
      have i1 : ¬ (l.length : Int) < l.length := by omega
      obtain ⟨q0, q1, hB⟩ := ZM.out
      obtain ⟨u0, u1, u2, uf⟩ := three_at17 q1
      obtain ⟨p0, p1, p2, pf⟩ := three_at17 q0
      have er : leastN cf l = m := HR.out.trans PM.out
      have EE := Lib.hid er
      have tB := set_below17 hB (b := w.heap.size) (Nat.le_refl _) (.int .i64 m.off) (.int .i64 m.jit) (.int .i64 m.met)
      have BB := Lib.hid tB
      have G0 := Lib.hid q0
      clear q0 q1 hB ZM er PM HR tB
      go_wp2_with fail
      rw [EE.out]
      have g0 := set_nd17 (x' := .int .i64 m.off) (y' := .int .i64 m.jit) (z' := .int .i64 m.met) G0.out
      obtain ⟨r0, r1, r2, _⟩ := three_at17 g0
      exact bodyPost_ret (v := .agg #[.int .i64 m.off, .int .i64 m.jit, .int .i64 m.met]) (by simp [results, Try.results50, go_sem, r0, r1, r2]) rfl ⟨rfl, BB.out⟩
set_option maxRecDepth 100000 in
set_option maxHeartbeats 12800000 in
theorem kmaxn_any (cf : Nd → Nd → Int) (g : Nat) (eg : ∀ (args : Array Value) (w : World), (callFunc g args).run Try.prog w = .ok (.enter g args) w)
    (hc : ∀ (x y : Nd) (W : World), Calls Try.prog g #[x.val, y.val] W fun e w' => e = .returned (.int .i64 (cf x y)) ∧ Below W.heap.size W w')
    (l : List Nd) (h0 : 0 < l.length) (hl : l.length ≤ 100000) {F : Nat → Prop} {v : Value} (w : World) (hs : SlAt F 3 ndC w v l) (hF : ∀ b, F b → b < w.heap.size) :
    Calls Try.prog 51 #[v, .func (.func g) #[] #[]] w fun e w' => e = .returned (mostN cf l).val ∧ Below w.heap.size w w' := by
  have HS := Lib.hid hs
  have HC := Lib.hid hc
  obtain ⟨vx, vc, rfl⟩ := hs.slice
  obtain ⟨c0, hc0⟩ : ∃ c, l[0]? = some c := ⟨_, List.getElem?_eq_getElem h0⟩
  obtain ⟨b, off, rfl⟩ := nd_some17 hs hc0
  obtain ⟨x0, x1, x2, fb⟩ := nd_at17 hs hc0
  rw [Nat.zero_mul, Nat.add_zero] at x0 x1 x2
  have lb := hF b fb
  have hlz : ((l.length : Int) < 1) = False := by simp; omega
  have hlz' : ¬ (l.length : Int) < 1 := by omega
  have i0 : (0 : Int) < (l.length : Int) := by omega
  have e0 : pkN moreT cf l 0 = c0 := by show l.getD 0 Nd.zero = c0; simp [List.getD, hc0]
  have P0 := Lib.hid e0
  have hr : mostN cf l = pkN moreT cf l (l.length - 1) := rfl
  have HR := Lib.hid hr
  clear hs hc hr e0
  go_enter Try.func51, Try.ntmps51
  go_upto_region 4 with fail
  obtain ⟨z0, z1, zB⟩ := two_nd17 w #[.int .i64 0, .int .i64 0, .int .i64 0] #[.int .i64 c0.off, .int .i64 c0.jit, .int .i64 c0.met] 40
  generalize (w.alloc (.cells #[.int .i64 0, .int .i64 0, .int .i64 0] 40)).alloc (.cells #[.int .i64 c0.off, .int .i64 c0.jit, .int .i64 c0.met] 40) = w1 at *
  clear x0 x1 x2 hlz hlz' fb
  have ZZ := Lib.hid (And.intro z0 (And.intro z1 zB))
  clear z0 z1 zB
  go_wp2_with fail
  go_loopw [6] (fun i wr => ∃ (n : Nat) (m : Nd), 1 ≤ n ∧ n ≤ l.length ∧ i = .int .i64 (n : Int) ∧ Hid (pkN moreT cf l (n - 1) = m) ∧ Hid (wr.heap[w.heap.size]? = some (.cells #[.int .i64 0, .int .i64 0, .int .i64 0] 40 (0, 0)) ∧ wr.heap[w.heap.size + 1]? = some (.cells #[.int .i64 m.off, .int .i64 m.jit, .int .i64 m.met] 40 (0, 0)) ∧ Below w.heap.size w wr)) (fun i _ => l.length - (intOf i).toNat)
  case atStart => exact ⟨1, c0, Nat.le_refl _, h0, rfl, P0, ZZ⟩
  case round =>
    clear ZZ P0
    obtain ⟨n, m, h1, hn, rfl, PM, ZM⟩ := hrel
    by_cases hlt : n < l.length
    · obtain ⟨c, hcn⟩ : ∃ c, l[n]? = some c := ⟨_, List.getElem?_eq_getElem hlt⟩
      have i1 : (n : Int) < l.length := by omega
      have i0' : (0 : Int) ≤ (n : Int) := by omega
      obtain ⟨y0, y1, y2, _⟩ := nd_at17 HS.out hcn
      obtain ⟨q0, q1, hB⟩ := ZM.out
      have nx := pk_next moreT cf l h1 hcn
      rw [PM.out] at nx
      have cc := HC.out c m
      obtain ⟨z, hz⟩ : ∃ z, cf c m = z := ⟨_, rfl⟩
      rw [hz] at nx cc
      have NX := Lib.hid nx
      unfold Nd.val at cc
      have v0 : wr.cell? ⟨b, off + n * 3, none⟩ = some (.int .i64 c.off) := by rw [hB.cell lb]; exact y0
      have v1 : wr.cell? ⟨b, off + n * 3 + 1, none⟩ = some (.int .i64 c.jit) := by rw [hB.cell lb]; exact y1
      have v2 : wr.cell? ⟨b, off + n * 3 + 2, none⟩ = some (.int .i64 c.met) := by rw [hB.cell lb]; exact y2
      obtain ⟨u0, u1, u2, _⟩ := three_at17 q1
      have lbr := Nat.lt_of_lt_of_le lb hB.size
      have k0 := cell_regrown v0
      have k1 := cell_regrown v1
      have k2 := cell_regrown v2
      have k3 := cell_regrown u0
      have k4 := cell_regrown u1
      have k5 := cell_regrown u2
      have d1 := fun d os => Calls.regrown_of (cc (grow (redrawn wr d) os))
      have VV := Lib.hid (And.intro v0 (And.intro v1 v2))
      clear hcn y0 y1 y2 hz cc nx PM q0 q1 hB v0 v1 v2 u0 u1 u2
      go_upto_region 7 with fail
      refine wp_region_quiet_below (by kernel_rfl) (by kernel_rfl) ?_
      repeat (quiet_step (first | (go_at_fn g; with_reducible exact d1 _ _)))
      refine wpQuiet_nil ?_
      intro w2 hw
      replace hw := again17 hw
      obtain ⟨v0, v1, v2⟩ := VV.out
      replace v0 := (hw.cell lbr).trans v0
      replace v1 := (hw.cell lbr).trans v1
      replace v2 := (hw.cell lbr).trans v2
      obtain ⟨q0, q1, hB⟩ := ZM.out
      replace q0 := kept q0 hw
      replace q1 := kept q1 hw
      replace hB := hB.trans (hw.mono hB.size)
      obtain ⟨u0, u1, u2, uf⟩ := three_at17 q1
      have QQ := Lib.hid (And.intro q0 (And.intro q1 hB))
      clear q0 q1 hB hw k0 k1 k2 k3 k4 k5 d1 ZM VV
      by_cases hz : 0 < z
      · have hzd : decide (0 < z) = true := decide_eq_true hz
        have e := NX.out
        rw [if_pos (by unfold moreT; exact hzd)] at e
        have NE := Lib.hid e
        clear NX e
        go_wp2_with fail
        obtain ⟨q0, q1, hB⟩ := QQ.out
        have t0 := set_far17 (b := w.heap.size + 1) (x' := .int .i64 c.off) (y' := .int .i64 c.jit) (z' := .int .i64 c.met) q0 (by omega)
        have t1 := set_nd17 (x' := .int .i64 c.off) (y' := .int .i64 c.jit) (z' := .int .i64 c.met) q1
        have tB := set_below17 hB (b := w.heap.size + 1) (by omega) (.int .i64 c.off) (.int .i64 c.jit) (.int .i64 c.met)
        have TT := Lib.hid (And.intro t0 (And.intro t1 tB))
        clear q0 q1 hB t0 t1 tB QQ
        go_roundw
        case rel => exact ⟨n + 1, c, by omega, by omega, by go_num, NE, TT⟩
        case measure => simp [intOf]; omega
      · have hzd : decide (0 < z) = false := decide_eq_false hz
        have e := NX.out
        rw [if_neg (by unfold moreT; rw [hzd]; decide)] at e
        have NE := Lib.hid e
        clear NX e
        go_wp2_with fail
        go_roundw
        case rel => exact ⟨n + 1, m, by omega, by omega, by go_num, NE, QQ⟩
        case measure => simp [intOf]; omega
    · have enl : n = l.length := by omega
      subst enl
      have i1 : ¬ (l.length : Int) < l.length := by omega
      obtain ⟨q0, q1, hB⟩ := ZM.out
      obtain ⟨u0, u1, u2, uf⟩ := three_at17 q1
      obtain ⟨p0, p1, p2, pf⟩ := three_at17 q0
      have er : mostN cf l = m := HR.out.trans PM.out
      have EE := Lib.hid er
      have tB := set_below17 hB (b := w.heap.size) (Nat.le_refl _) (.int .i64 m.off) (.int .i64 m.jit) (.int .i64 m.met)
      have BB := Lib.hid tB
      have G0 := Lib.hid q0
      clear q0 q1 hB ZM er PM HR tB
      go_wp2_with fail
      rw [EE.out]
      have g0 := set_nd17 (x' := .int .i64 m.off) (y' := .int .i64 m.jit) (z' := .int .i64 m.met) G0.out
      obtain ⟨r0, r1, r2, _⟩ := three_at17 g0
      exact bodyPost_ret (v := .agg #[.int .i64 m.off, .int .i64 m.jit, .int .i64 m.met]) (by simp [results, Try.results51, go_sem, r0, r1, r2]) rfl ⟨rfl, BB.out⟩
end Go.Proofs.Ytefjdmbioclddaa.W
