/- Layer 13: the reference's Make, walked. (Written by genSmB.py.) -/
import Derived.Test.YtlpcoaohgcgkiaaGreatSmA
import Derived.Test.YtlpcoaohgcgkiaaGreatFixB
import Derived.Test.YtlpcoaohgcgkiaaGreatFixE
import Derived.Test.YtlpcoaohgcgkiaaGreatFixF
import Derived.Test.YtlpcoaohgcgkiaaGreatFixI
import Derived.Test.YtlpcoaohgcgkiaaGreatEraB
import Derived.Test.YtlpcoaohgcgkiaaGreatCkY
import Derived.RegionCalls
import Derived.Deep.RegionHeld3
import Derived.Deep.DeepCutAuto
namespace Go.Proofs.YtlpcoaohgcgkiaaGreat.W
open Go.RowKit Go.Sort
set_option linter.unusedVariables false
set_option linter.unusedSimpArgs false
theorem five_cells {w : World} {p : Nat} {a b c d e : Value} {t : TypeId} (h : w.heap[p]? = some (.cells #[a, b, c, d, e] t (0, 0))) :
    w.cell? ⟨p, 0, none⟩ = some a ∧ w.cell? ⟨p, 1, none⟩ = some b ∧ w.cell? ⟨p, 2, none⟩ = some c ∧ w.cell? ⟨p, 3, none⟩ = some d ∧ w.cell? ⟨p, 4, none⟩ = some e := by
  refine ⟨?_, ?_, ?_, ?_, ?_⟩ <;> simp [World.cell?, h]
theorem no_frozen {w : World} {p : Nat} {C : Array Value} {t : TypeId} (h : w.heap[p]? = some (.cells C t (0, 0))) (j : Nat) : w.frozen? ⟨p, j, none⟩ = false := by
  simp [World.frozen?, h]
theorem two_ints (u : World) (a b : Int) (t : TypeId) : Ints ((u.alloc (.cells #[.int .i64 a, .int .i64 b] t)).drew) (some ⟨u.heap.size, 0, none⟩) [a, b] := by
  have hn : (u.alloc (.cells #[.int .i64 a, .int .i64 b] t)).drew.heap[u.heap.size]? = some (.cells #[.int .i64 a, .int .i64 b] t (0, 0)) := heap_alloc_new u _
  generalize (u.alloc (.cells #[.int .i64 a, .int .i64 b] t)).drew = v at *
  refine .inr ⟨_, _, rfl, (Array.getElem?_eq_some_iff.1 hn).1, fun k hk => ?_⟩
  have hk : k = 0 ∨ k = 1 := by simp at hk; omega
  rcases hk with rfl | rfl
  · simp [World.cell?, hn]
  · simp [World.cell?, hn]
theorem max_if (a b : Int) : max a b = if a < b then b else a := by split <;> omega
set_option maxRecDepth 100000 in
set_option maxHeartbeats 25600000 in
theorem rmake_good (p : Pm) (t : p.Typed) (own : Int) (o0 : -9223372036854775808 ≤ own ∧ own ≤ 9223372036854775807) (h : Hd) (th : h.Typed) (back : Int) (b0 : 0 ≤ back ∧ back < 18446744073709551616) (at_ total : Int) (g1 : 0 ≤ at_) (g2 : at_ ≤ 4611686018427387904) (t0 : -9223372036854775808 ≤ total ∧ total ≤ 9223372036854775807) (g3 : 0 ≤ dfI back h.org) (g4 : 0 ≤ dfI h.tx h.rcv) (w : World) :
    Calls Tryz.prog 7 #[p.val, .int .i64 own, h.val, .int .u64 back, .int .i64 at_, .int .i64 total] w fun e w' => e = .returned (.tuple #[(makeV p own h back at_ total).val, .int .i64 0]) ∧ Below w.heap.size w w' := by
  have y1 := rdf_any back h.org b0.1 b0.2 th.org.1 th.org.2
  have y2 := rdf_any h.tx h.rcv th.tx.1 th.tx.2 th.rcv.1 th.rcv.2
  have y3 := rdf_any h.rcv h.org th.rcv.1 th.rcv.2 th.org.1 th.org.2
  have y4 := rdf_any h.tx back th.tx.1 th.tx.2 b0.1 b0.2
  have y5 := rsub_any (dfI back h.org) (dfI h.tx h.rcv) (by have := dfI_range back h.org; omega) (by have := dfI_range back h.org; omega) (by have := dfI_range h.tx h.rcv; omega) (by have := dfI_range h.tx h.rcv; omega)
  have y6 := rpow_any own o0.1 o0.2
  have y7 := rpow_any h.prec th.prec.1 th.prec.2
  have y8 := radd_any (powI h.prec) (powI own) (by have := powI_range h.prec; omega) (by have := powI_range h.prec; omega) (by have := powI_range own; omega) (by have := powI_range own; omega)
  have y9 := rfmul_any p.phi (dfI back h.org) t.phi.1 t.phi.2 (by have := dfI_range back h.org; omega) (by have := dfI_range back h.org; omega)
  have y10 := radd_any (addI (powI h.prec) (powI own)) (mulI p.phi (dfI back h.org)) (by have := addI_range (powI h.prec) (powI own); omega) (by have := addI_range (powI h.prec) (powI own); omega) (by have := mulI_range' p.phi (dfI back h.org); omega) (by have := mulI_range' p.phi (dfI back h.org); omega)
  change ∀ w, Calls _ _ _ w fun e w' => e = .returned (.int .i64 (powI own)) ∧ w = w' at y6
  change ∀ w, Calls _ _ _ w fun e w' => e = .returned (.int .i64 (powI h.prec)) ∧ w = w' at y7
  unfold makeV Smp.val Pm.val Hd.val
  dsimp only
  have d1 := dfI_range back h.org
  have d2 := dfI_range h.tx h.rcv
  have d3 := dfI_range h.rcv h.org
  have d4 := dfI_range h.tx back
  generalize dfI back h.org = D1 at *
  generalize dfI h.tx h.rcv = D2 at *
  generalize dfI h.rcv h.org = D3 at *
  generalize dfI h.tx back = D4 at *
  have hp := laid (.cells #[.int .i64 0, .int .i64 0, .int .i64 0, .int .i64 at_, .int .i64 total] 29) (laid (.cells #[.int .i64 0, .int .i64 0, .int .i64 0, .int .i64 0, .int .i64 0] 29) (laid (.cells #[.int .i64 h.leap, .int .i64 h.ver, .int .i64 h.mode, .int .i64 h.str, .int .i64 h.poll, .int .i64 h.prec, .int .u32 h.rdel, .int .u32 h.rdis, .int .u32 h.ref, .int .u64 h.reft, .int .u64 h.org, .int .u64 h.rcv, .int .u64 h.tx] 27) (heap_alloc_new w (.cells #[.int .i64 p.step, .int .i64 p.watch, .int .i64 p.panic, .int .i64 p.maxrate, .int .i64 p.phi, .int .i64 p.maxdist, .int .i64 p.gate, .int .i64 p.minpoll, .int .i64 p.maxpoll, .int .i64 p.burst, .int .i64 p.minsane, .int .i64 p.minleft] 34))))
  have hh := laid (.cells #[.int .i64 0, .int .i64 0, .int .i64 0, .int .i64 at_, .int .i64 total] 29) (laid (.cells #[.int .i64 0, .int .i64 0, .int .i64 0, .int .i64 0, .int .i64 0] 29) (heap_alloc_new (w.alloc (.cells #[.int .i64 p.step, .int .i64 p.watch, .int .i64 p.panic, .int .i64 p.maxrate, .int .i64 p.phi, .int .i64 p.maxdist, .int .i64 p.gate, .int .i64 p.minpoll, .int .i64 p.maxpoll, .int .i64 p.burst, .int .i64 p.minsane, .int .i64 p.minleft] 34)) (.cells #[.int .i64 h.leap, .int .i64 h.ver, .int .i64 h.mode, .int .i64 h.str, .int .i64 h.poll, .int .i64 h.prec, .int .u32 h.rdel, .int .u32 h.rdis, .int .u32 h.ref, .int .u64 h.reft, .int .u64 h.org, .int .u64 h.rcv, .int .u64 h.tx] 27)))
  have hr := laid (.cells #[.int .i64 0, .int .i64 0, .int .i64 0, .int .i64 at_, .int .i64 total] 29) (heap_alloc_new ((w.alloc (.cells #[.int .i64 p.step, .int .i64 p.watch, .int .i64 p.panic, .int .i64 p.maxrate, .int .i64 p.phi, .int .i64 p.maxdist, .int .i64 p.gate, .int .i64 p.minpoll, .int .i64 p.maxpoll, .int .i64 p.burst, .int .i64 p.minsane, .int .i64 p.minleft] 34)).alloc (.cells #[.int .i64 h.leap, .int .i64 h.ver, .int .i64 h.mode, .int .i64 h.str, .int .i64 h.poll, .int .i64 h.prec, .int .u32 h.rdel, .int .u32 h.rdis, .int .u32 h.ref, .int .u64 h.reft, .int .u64 h.org, .int .u64 h.rcv, .int .u64 h.tx] 27)) (.cells #[.int .i64 0, .int .i64 0, .int .i64 0, .int .i64 0, .int .i64 0] 29))
  have hs := heap_alloc_new (((w.alloc (.cells #[.int .i64 p.step, .int .i64 p.watch, .int .i64 p.panic, .int .i64 p.maxrate, .int .i64 p.phi, .int .i64 p.maxdist, .int .i64 p.gate, .int .i64 p.minpoll, .int .i64 p.maxpoll, .int .i64 p.burst, .int .i64 p.minsane, .int .i64 p.minleft] 34)).alloc (.cells #[.int .i64 h.leap, .int .i64 h.ver, .int .i64 h.mode, .int .i64 h.str, .int .i64 h.poll, .int .i64 h.prec, .int .u32 h.rdel, .int .u32 h.rdis, .int .u32 h.ref, .int .u64 h.reft, .int .u64 h.org, .int .u64 h.rcv, .int .u64 h.tx] 27)).alloc (.cells #[.int .i64 0, .int .i64 0, .int .i64 0, .int .i64 0, .int .i64 0] 29)) (.cells #[.int .i64 0, .int .i64 0, .int .i64 0, .int .i64 at_, .int .i64 total] 29)
  have hB := ((((Below.refl w.heap.size w).alloc (Nat.le_refl _) (.cells #[.int .i64 p.step, .int .i64 p.watch, .int .i64 p.panic, .int .i64 p.maxrate, .int .i64 p.phi, .int .i64 p.maxdist, .int .i64 p.gate, .int .i64 p.minpoll, .int .i64 p.maxpoll, .int .i64 p.burst, .int .i64 p.minsane, .int .i64 p.minleft] 34)).alloc (by simp) (.cells #[.int .i64 h.leap, .int .i64 h.ver, .int .i64 h.mode, .int .i64 h.str, .int .i64 h.poll, .int .i64 h.prec, .int .u32 h.rdel, .int .u32 h.rdis, .int .u32 h.ref, .int .u64 h.reft, .int .u64 h.org, .int .u64 h.rcv, .int .u64 h.tx] 27)).alloc (by simp; omega) (.cells #[.int .i64 0, .int .i64 0, .int .i64 0, .int .i64 0, .int .i64 0] 29)).alloc (by simp; omega) (.cells #[.int .i64 0, .int .i64 0, .int .i64 0, .int .i64 at_, .int .i64 total] 29)
  rw [World.size_alloc] at hh
  rw [World.size_alloc, World.size_alloc] at hr
  rw [World.size_alloc, World.size_alloc, World.size_alloc] at hs
  go_enter Tryz.func7, Tryz.ntmps7
  go_wp2_with fail
  (with_reducible refine (y1 _).mono ?_)
  rintro e w1 ⟨rfl, rfl⟩
  go_wp2_with fail
  (with_reducible refine (y2 _).mono ?_)
  rintro e w1 ⟨rfl, rfl⟩
  go_upto_region 6 with fail
  generalize (((w.alloc (.cells #[.int .i64 p.step, .int .i64 p.watch, .int .i64 p.panic, .int .i64 p.maxrate, .int .i64 p.phi, .int .i64 p.maxdist, .int .i64 p.gate, .int .i64 p.minpoll, .int .i64 p.maxpoll, .int .i64 p.burst, .int .i64 p.minsane, .int .i64 p.minleft] 34)).alloc (.cells #[.int .i64 h.leap, .int .i64 h.ver, .int .i64 h.mode, .int .i64 h.str, .int .i64 h.poll, .int .i64 h.prec, .int .u32 h.rdel, .int .u32 h.rdis, .int .u32 h.ref, .int .u64 h.reft, .int .u64 h.org, .int .u64 h.rcv, .int .u64 h.tx] 27)).alloc (.cells #[.int .i64 0, .int .i64 0, .int .i64 0, .int .i64 0, .int .i64 0] 29)).alloc (.cells #[.int .i64 0, .int .i64 0, .int .i64 0, .int .i64 at_, .int .i64 total] 29) = u0 at *
  clear y1 y2
  go_cut [] (fun wx => wx.heap[w.heap.size]? = some (.cells #[.int .i64 p.step, .int .i64 p.watch, .int .i64 p.panic, .int .i64 p.maxrate, .int .i64 p.phi, .int .i64 p.maxdist, .int .i64 p.gate, .int .i64 p.minpoll, .int .i64 p.maxpoll, .int .i64 p.burst, .int .i64 p.minsane, .int .i64 p.minleft] 34 (0, 0)) ∧ wx.heap[w.heap.size + 1]? = some (.cells #[.int .i64 h.leap, .int .i64 h.ver, .int .i64 h.mode, .int .i64 h.str, .int .i64 h.poll, .int .i64 h.prec, .int .u32 h.rdel, .int .u32 h.rdis, .int .u32 h.ref, .int .u64 h.reft, .int .u64 h.org, .int .u64 h.rcv, .int .u64 h.tx] 27 (0, 0)) ∧ wx.heap[w.heap.size + 1 + 1]? = some (.cells #[.int .i64 0, .int .i64 0, .int .i64 0, .int .i64 0, .int .i64 0] 29 (0, 0)) ∧ wx.heap[w.heap.size + 1 + 1 + 1]? = some (.cells #[.int .i64 (meanI [D3, D4]), .int .i64 0, .int .i64 0, .int .i64 at_, .int .i64 total] 29 (0, 0)) ∧ Below w.heap.size w wx)
  case first =>
    obtain ⟨h0, h1, h2, h3, h4, h5, h6, h7, h8, h9, h10, h11, h12⟩ := thirteen_in hh
    have ym := rmean_any [D3, D4] (some ⟨u0.heap.size, 0, none⟩) 2 (by intro x hx; simp at hx; omega) (by simp) ((u0.alloc (.cells #[.int .i64 D3, .int .i64 D4] 2)).drew) (two_ints u0 D3 D4 _)
    rw [show [D3, D4].length = 2 from rfl] at ym
    have hl := (Array.getElem?_eq_some_iff.1 hs).1
    have hh2 : (u0.alloc (.cells #[.int .i64 D3, .int .i64 D4] 2)).drew.heap[w.heap.size + 1]? = _ := laid (.cells #[.int .i64 D3, .int .i64 D4] 2) hh
    have hs2 : (u0.alloc (.cells #[.int .i64 D3, .int .i64 D4] 2)).drew.heap[w.heap.size + 1 + 1 + 1]? = _ := laid (.cells #[.int .i64 D3, .int .i64 D4] 2) hs
    obtain ⟨s0, _⟩ := five_cells hs2
    have sz := no_frozen hs2 0
    obtain ⟨_, _, _, _, _, _, _, _, _, _, k10, k11, k12⟩ := thirteen_in hh2
    have hp3 : ((u0.setCell ⟨w.heap.size + 1 + 1 + 1, 0, none⟩ (.int .i64 (meanI [D3, D4]))).alloc (.cells #[.int .i64 D3, .int .i64 D4] 2)).drew.heap[w.heap.size]? = _ := laid (.cells #[.int .i64 D3, .int .i64 D4] 2) ((block_far (w := u0) (b := w.heap.size + 1 + 1 + 1) (k := w.heap.size) 0 _ (by omega)).trans hp)
    have hh3 : ((u0.setCell ⟨w.heap.size + 1 + 1 + 1, 0, none⟩ (.int .i64 (meanI [D3, D4]))).alloc (.cells #[.int .i64 D3, .int .i64 D4] 2)).drew.heap[w.heap.size + 1]? = _ := laid (.cells #[.int .i64 D3, .int .i64 D4] 2) ((block_far (w := u0) (b := w.heap.size + 1 + 1 + 1) (k := w.heap.size + 1) 0 _ (by omega)).trans hh)
    have hr3 : ((u0.setCell ⟨w.heap.size + 1 + 1 + 1, 0, none⟩ (.int .i64 (meanI [D3, D4]))).alloc (.cells #[.int .i64 D3, .int .i64 D4] 2)).drew.heap[w.heap.size + 1 + 1]? = _ := laid (.cells #[.int .i64 D3, .int .i64 D4] 2) ((block_far (w := u0) (b := w.heap.size + 1 + 1 + 1) (k := w.heap.size + 1 + 1) 0 _ (by omega)).trans hr)
    have hs3 : ((u0.setCell ⟨w.heap.size + 1 + 1 + 1, 0, none⟩ (.int .i64 (meanI [D3, D4]))).alloc (.cells #[.int .i64 D3, .int .i64 D4] 2)).drew.heap[w.heap.size + 1 + 1 + 1]? = some (.cells #[.int .i64 (meanI [D3, D4]), .int .i64 0, .int .i64 0, .int .i64 at_, .int .i64 total] 29 (0, 0)) := laid (.cells #[.int .i64 D3, .int .i64 D4] 2) (block_set 0 (.int .i64 (meanI [D3, D4])) hs)
    have hB3 := ((hB.setCell (p := ⟨w.heap.size + 1 + 1 + 1, 0, none⟩) (show w.heap.size ≤ w.heap.size + 1 + 1 + 1 by omega) (.int .i64 (meanI [D3, D4]))).alloc (by rw [set_size]; exact hB.size) (.cells #[.int .i64 D3, .int .i64 D4] 2)).drew
    obtain ⟨_, _, _, _, _, _, _, _, _, _, m10, m11, m12⟩ := thirteen_in hh3
    have E := Lib.hid (And.intro hp3 (And.intro hh3 (And.intro hr3 (And.intro hs3 hB3))))
    clear hp hh hr hs hB hs2 hh2 hp3 hh3 hr3 hs3 hB3
    go_region_held3 (fun w' => w'.cell? ⟨w.heap.size + 1, 10, none⟩ = some (.int .u64 h.org) ∧ w'.cell? ⟨w.heap.size + 1, 11, none⟩ = some (.int .u64 h.rcv) ∧ w'.cell? ⟨w.heap.size + 1, 12, none⟩ = some (.int .u64 h.tx))
      (first | exact ⟨h10, h11, h12⟩ | exact ⟨k10, k11, k12⟩ | exact ⟨m10, m11, m12⟩)
      (first | (go_at_call 25; (with_reducible refine ym.mono ?_); rintro e v1 ⟨rfl, rfl⟩) | (go_at_call 24; (first | (with_reducible refine (y3 _).mono ?_) | (with_reducible refine (y4 _).mono ?_)); rintro e v1 ⟨rfl, rfl⟩))
    all_goals (go_wp2_with fail; go_meet; exact E.out)
  case rest =>
  obtain ⟨hp1, hh1, hr1, hs1, hB1⟩ := hcut
  clear hp hh hr hs hB y3 y4
  rename World => u1
  go_upto_region 7 with fail
  go_cut [] (fun wx => wx.heap[w.heap.size]? = some (.cells #[.int .i64 p.step, .int .i64 p.watch, .int .i64 p.panic, .int .i64 p.maxrate, .int .i64 p.phi, .int .i64 p.maxdist, .int .i64 p.gate, .int .i64 p.minpoll, .int .i64 p.maxpoll, .int .i64 p.burst, .int .i64 p.minsane, .int .i64 p.minleft] 34 (0, 0)) ∧ wx.heap[w.heap.size + 1]? = some (.cells #[.int .i64 h.leap, .int .i64 h.ver, .int .i64 h.mode, .int .i64 h.str, .int .i64 h.poll, .int .i64 h.prec, .int .u32 h.rdel, .int .u32 h.rdis, .int .u32 h.ref, .int .u64 h.reft, .int .u64 h.org, .int .u64 h.rcv, .int .u64 h.tx] 27 (0, 0)) ∧ wx.heap[w.heap.size + 1 + 1]? = some (.cells #[.int .i64 0, .int .i64 0, .int .i64 0, .int .i64 0, .int .i64 0] 29 (0, 0)) ∧ wx.heap[w.heap.size + 1 + 1 + 1]? = some (.cells #[.int .i64 (meanI [D3, D4]), .int .i64 (max (subI D1 D2) (powI own)), .int .i64 0, .int .i64 at_, .int .i64 total] 29 (0, 0)) ∧ Below w.heap.size w wx)
  case first =>
    have hl := (Array.getElem?_eq_some_iff.1 hs1).1
    obtain ⟨s0, s1, s2, s3, s4⟩ := five_cells hs1
    have sz := no_frozen hs1 1
    have hp3 := (block_far (w := u1) (b := w.heap.size + 1 + 1 + 1) (k := w.heap.size) 1 (.int .i64 (max (subI D1 D2) (powI own))) (by omega)).trans hp1
    have hh3 := (block_far (w := u1) (b := w.heap.size + 1 + 1 + 1) (k := w.heap.size + 1) 1 (.int .i64 (max (subI D1 D2) (powI own))) (by omega)).trans hh1
    have hr3 := (block_far (w := u1) (b := w.heap.size + 1 + 1 + 1) (k := w.heap.size + 1 + 1) 1 (.int .i64 (max (subI D1 D2) (powI own))) (by omega)).trans hr1
    have hs3 : (u1.setCell ⟨w.heap.size + 1 + 1 + 1, 1, none⟩ (.int .i64 (max (subI D1 D2) (powI own)))).heap[w.heap.size + 1 + 1 + 1]? = some (.cells #[.int .i64 (meanI [D3, D4]), .int .i64 (max (subI D1 D2) (powI own)), .int .i64 0, .int .i64 at_, .int .i64 total] 29 (0, 0)) := block_set 1 (.int .i64 (max (subI D1 D2) (powI own))) hs1
    have hB3 := hB1.setCell (p := ⟨w.heap.size + 1 + 1 + 1, 1, none⟩) (show w.heap.size ≤ w.heap.size + 1 + 1 + 1 by omega) (.int .i64 (max (subI D1 D2) (powI own)))
    have E := Lib.hid (And.intro hp3 (And.intro hh3 (And.intro hr3 (And.intro hs3 hB3))))
    clear hp1 hh1 hr1 hs1 hB1 hp3 hh3 hr3 hs3 hB3
    go_wp2_with fail
    (with_reducible refine (y5 _).mono ?_)
    rintro e v1 ⟨rfl, rfl⟩
    go_wp2_with fail
    (with_reducible refine (y6 _).mono ?_)
    rintro e v1 ⟨rfl, rfl⟩
    go_wp2_with fail
    all_goals go_meet
    all_goals first
      | (have e9 : max (subI D1 D2) (powI own) = subI D1 D2 := by omega
         have E2 := E.out
         rw [e9] at E2
         rw [e9]
         exact E2)
      | (have e9 : max (subI D1 D2) (powI own) = powI own := by omega
         have E2 := E.out
         rw [e9] at E2
         rw [e9]
         exact E2)
      | (have e9 := max_if (subI D1 D2) (powI own)
         have E2 := E.out
         rw [e9] at E2
         rw [e9]
         exact E2)
  case rest =>
  obtain ⟨hp2, hh2, hr2, hs2, hB2⟩ := hcut
  clear hp1 hh1 hr1 hs1 hB1 y5
  rename World => u2
  go_upto_region 8 with fail
  go_cut [] (fun wx => wx.heap[w.heap.size]? = some (.cells #[.int .i64 p.step, .int .i64 p.watch, .int .i64 p.panic, .int .i64 p.maxrate, .int .i64 p.phi, .int .i64 p.maxdist, .int .i64 p.gate, .int .i64 p.minpoll, .int .i64 p.maxpoll, .int .i64 p.burst, .int .i64 p.minsane, .int .i64 p.minleft] 34 (0, 0)) ∧ wx.heap[w.heap.size + 1]? = some (.cells #[.int .i64 h.leap, .int .i64 h.ver, .int .i64 h.mode, .int .i64 h.str, .int .i64 h.poll, .int .i64 h.prec, .int .u32 h.rdel, .int .u32 h.rdis, .int .u32 h.ref, .int .u64 h.reft, .int .u64 h.org, .int .u64 h.rcv, .int .u64 h.tx] 27 (0, 0)) ∧ wx.heap[w.heap.size + 1 + 1]? = some (.cells #[.int .i64 0, .int .i64 0, .int .i64 0, .int .i64 0, .int .i64 0] 29 (0, 0)) ∧ wx.heap[w.heap.size + 1 + 1 + 1]? = some (.cells #[.int .i64 (meanI [D3, D4]), .int .i64 (max (subI D1 D2) (powI own)), .int .i64 (addI (addI (powI h.prec) (powI own)) (mulI p.phi D1)), .int .i64 at_, .int .i64 total] 29 (0, 0)) ∧ Below w.heap.size w wx)
  case first =>
    have hl := (Array.getElem?_eq_some_iff.1 hs2).1
    obtain ⟨s0, s1, s2, s3, s4⟩ := five_cells hs2
    have sz := no_frozen hs2 2
    obtain ⟨_, _, _, _, _, h5, _, _, _, _, _, _, _⟩ := thirteen_in hh2
    obtain ⟨_, _, _, _, q4, _, _, _, _, _, _, _⟩ := twelve_at hp2
    have hp3 := (block_far (w := u2) (b := w.heap.size + 1 + 1 + 1) (k := w.heap.size) 2 (.int .i64 (addI (addI (powI h.prec) (powI own)) (mulI p.phi D1))) (by omega)).trans hp2
    have hh3 := (block_far (w := u2) (b := w.heap.size + 1 + 1 + 1) (k := w.heap.size + 1) 2 (.int .i64 (addI (addI (powI h.prec) (powI own)) (mulI p.phi D1))) (by omega)).trans hh2
    have hr3 := (block_far (w := u2) (b := w.heap.size + 1 + 1 + 1) (k := w.heap.size + 1 + 1) 2 (.int .i64 (addI (addI (powI h.prec) (powI own)) (mulI p.phi D1))) (by omega)).trans hr2
    have hs3 : (u2.setCell ⟨w.heap.size + 1 + 1 + 1, 2, none⟩ (.int .i64 (addI (addI (powI h.prec) (powI own)) (mulI p.phi D1)))).heap[w.heap.size + 1 + 1 + 1]? = some (.cells #[.int .i64 (meanI [D3, D4]), .int .i64 (max (subI D1 D2) (powI own)), .int .i64 (addI (addI (powI h.prec) (powI own)) (mulI p.phi D1)), .int .i64 at_, .int .i64 total] 29 (0, 0)) := block_set 2 (.int .i64 (addI (addI (powI h.prec) (powI own)) (mulI p.phi D1))) hs2
    have hB3 := hB2.setCell (p := ⟨w.heap.size + 1 + 1 + 1, 2, none⟩) (show w.heap.size ≤ w.heap.size + 1 + 1 + 1 by omega) (.int .i64 (addI (addI (powI h.prec) (powI own)) (mulI p.phi D1)))
    obtain ⟨_, _, _, _, _, m5, _, _, _, _, _, _, _⟩ := thirteen_in hh3
    obtain ⟨_, _, _, _, n4, _, _, _, _, _, _, _⟩ := twelve_at hp3
    have E := Lib.hid (And.intro hp3 (And.intro hh3 (And.intro hr3 (And.intro hs3 hB3))))
    clear hp2 hh2 hr2 hs2 hB2 hp3 hh3 hr3 hs3 hB3
    go_region_held3 (fun w' => w'.cell? ⟨w.heap.size, 4, none⟩ = some (.int .i64 p.phi) ∧ w'.cell? ⟨w.heap.size + 1, 5, none⟩ = some (.int .i64 h.prec))
      (first | exact ⟨q4, h5⟩ | exact ⟨n4, m5⟩)
      (first | (go_at_call 27; (first | (with_reducible refine (y6 _).mono ?_) | (with_reducible refine (y7 _).mono ?_)); rintro e v1 ⟨rfl, rfl⟩) | (go_at_call 29; (with_reducible refine (y9 _).mono ?_); rintro e v1 ⟨rfl, rfl⟩) | (go_at_call 28; (first | (with_reducible refine (y8 _).mono ?_) | (with_reducible refine (y10 _).mono ?_)); rintro e v1 ⟨rfl, rfl⟩))
    all_goals (go_wp2_with fail; go_meet; exact ⟨E.out.1, E.out.2.1, E.out.2.2.1, E.out.2.2.2.1, E.out.2.2.2.2.drew⟩)
  case rest =>
  obtain ⟨hp3, hh3, hr3, hs3, hB3⟩ := hcut
  clear hp2 hh2 hr2 hs2 hB2 y6 y7 y8 y9 y10
  rename World => u3
  obtain ⟨s0, s1, s2, s3, s4⟩ := five_cells hs3
  obtain ⟨r0, r1, r2, r3, r4⟩ := five_cells hr3
  have rz := no_frozen hr3
  have hl := (Array.getElem?_eq_some_iff.1 hr3).1
  have hl2 := (Array.getElem?_eq_some_iff.1 hs3).1
  have hg : w.heap.size ≤ w.heap.size + 1 + 1 := by omega
  have hB4 := ((((hB3.setCell (p := ⟨w.heap.size + 1 + 1, 0, none⟩) hg (.int .i64 (meanI [D3, D4]))).setCell (p := ⟨w.heap.size + 1 + 1, 1, none⟩) hg (.int .i64 (max (subI D1 D2) (powI own)))).setCell (p := ⟨w.heap.size + 1 + 1, 2, none⟩) hg (.int .i64 (addI (addI (powI h.prec) (powI own)) (mulI p.phi D1)))).setCell (p := ⟨w.heap.size + 1 + 1, 3, none⟩) hg (.int .i64 at_)).setCell (p := ⟨w.heap.size + 1 + 1, 4, none⟩) hg (.int .i64 total)
  have HB4 := Lib.hid hB4
  clear hB4 hp3 hh3 hr3 hs3 hB3
  go_wp2_with fail
  exact bodyPost_ret (v := .tuple #[.agg #[.int .i64 (meanI [D3, D4]), .int .i64 (max (subI D1 D2) (powI own)), .int .i64 (addI (addI (powI h.prec) (powI own)) (mulI p.phi D1)), .int .i64 at_, .int .i64 total], .int .i64 0]) (by simp [results, Tryz.results7, go_sem, r0, r1, r2, r3, r4, rz]) rfl ⟨rfl, HB4.out⟩
set_option maxRecDepth 100000 in
set_option maxHeartbeats 25600000 in
theorem rmake_any (p : Pm) (t : p.Typed) (own : Int) (o0 : -9223372036854775808 ≤ own ∧ own ≤ 9223372036854775807) (h : Hd) (th : h.Typed) (back : Int) (b0 : 0 ≤ back ∧ back < 18446744073709551616) (at_ total : Int) (a0 : -9223372036854775808 ≤ at_ ∧ at_ ≤ 9223372036854775807) (t0 : -9223372036854775808 ≤ total ∧ total ≤ 9223372036854775807) (w : World) :
    Calls Tryz.prog 7 #[p.val, .int .i64 own, h.val, .int .u64 back, .int .i64 at_, .int .i64 total] w fun e w' => e = .returned (.tuple #[(makeS p own h back at_ total).val, .int .i64 (makeE h back at_)]) ∧ Below w.heap.size w w' := by
  by_cases hE : at_ < 0 ∨ 4611686018427387904 < at_ ∨ dfI back h.org < 0 ∨ dfI h.tx h.rcv < 0
  · have e1 : makeE h back at_ = 1 := by unfold makeE; rw [if_pos hE]
    have e2 : makeS p own h back at_ total = Smp.zero := by unfold makeS; rw [e1, if_neg (by decide)]
    rw [e1, e2]
    clear e1 e2
    have y1 := rdf_any back h.org b0.1 b0.2 th.org.1 th.org.2
    have y2 := rdf_any h.tx h.rcv th.tx.1 th.tx.2 th.rcv.1 th.rcv.2
    have hB := ((Below.refl w.heap.size w).alloc (Nat.le_refl _) (.cells #[.int .i64 p.step, .int .i64 p.watch, .int .i64 p.panic, .int .i64 p.maxrate, .int .i64 p.phi, .int .i64 p.maxdist, .int .i64 p.gate, .int .i64 p.minpoll, .int .i64 p.maxpoll, .int .i64 p.burst, .int .i64 p.minsane, .int .i64 p.minleft] 34)).alloc (by simp) (.cells #[.int .i64 h.leap, .int .i64 h.ver, .int .i64 h.mode, .int .i64 h.str, .int .i64 h.poll, .int .i64 h.prec, .int .u32 h.rdel, .int .u32 h.rdis, .int .u32 h.ref, .int .u64 h.reft, .int .u64 h.org, .int .u64 h.rcv, .int .u64 h.tx] 27)
    have hB3 := hB.alloc (by simp; omega) (.cells #[.int .i64 0, .int .i64 0, .int .i64 0, .int .i64 0, .int .i64 0] 29)
    unfold Smp.zero Smp.val Pm.val Hd.val
    dsimp only
    generalize dfI back h.org = D1 at *
    generalize dfI h.tx h.rcv = D2 at *
    have HB := Lib.hid hB3
    clear hB hB3
    have hc : at_ < 0 ∨ (0 ≤ at_ ∧ 4611686018427387904 < at_) ∨ (0 ≤ at_ ∧ at_ ≤ 4611686018427387904 ∧ D1 < 0) ∨ (0 ≤ at_ ∧ at_ ≤ 4611686018427387904 ∧ 0 ≤ D1 ∧ D2 < 0) := by omega
    clear hE
    rcases hc with c1 | ⟨c1, c2⟩ | ⟨c1, c2, c3⟩ | ⟨c1, c2, c3, c4⟩
    all_goals
      go_enter Tryz.func7, Tryz.ntmps7
      go_wp2_with fail
      (with_reducible refine (y1 _).mono ?_)
      rintro e w1 ⟨rfl, rfl⟩
      go_wp2_with fail
      (with_reducible refine (y2 _).mono ?_)
      rintro e w1 ⟨rfl, rfl⟩
      go_wp2_with fail
      exact bodyPost_ret (v := .tuple #[.agg #[.int .i64 0, .int .i64 0, .int .i64 0, .int .i64 0, .int .i64 0], .int .i64 1]) (by simp [results, Tryz.results7, go_sem]) rfl ⟨rfl, HB.out⟩
  · have e1 : makeE h back at_ = 0 := by unfold makeE; rw [if_neg hE]
    have e2 : makeS p own h back at_ total = makeV p own h back at_ total := by unfold makeS; rw [e1, if_pos rfl]
    rw [e1, e2]
    exact rmake_good p t own o0 h th back b0 at_ total (by omega) (by omega) t0 (by omega) (by omega) w
end Go.Proofs.YtlpcoaohgcgkiaaGreat.W
