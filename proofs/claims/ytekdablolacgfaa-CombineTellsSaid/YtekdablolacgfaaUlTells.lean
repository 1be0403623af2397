/- CombineTells: which server leads any others, and what they tell together, is the document's. Bound of DOC.md. (Written by wip/genUl.py.) -/
import Derived.Test.YtekdablolacgfaaCqT
import Derived.Test.YtekdablolacgfaaCqI
import Derived.Test.YtekdablolacgfaaCkY
import Derived.Test.YtekdablolacgfaaRtZ
import Derived.Lib.QuietBelow
import Derived.WalkKit
import Derived.WalkSpells
import Derived.WalkLawsBesides
import Derived.Lib.Hide
import Derived.Handy
import Derived.ProofKit
import Derived.OpenShut
import Derived.ShutString
import Derived.ChangeOld
import Derived.Below
namespace Go.Proofs.Ytekdablolacgfaa.CombineTells
open Go.Proofs.Ytekdablolacgfaa.W
open Go.ChangeShapes Go.WideShapes Go.ChangeAt Go.RowKit
open Go.ChangeMaps (open_string shut_string)
set_option linter.unusedVariables false
theorem own : ownKnob Try.prog.godebug = none := by kernel_rfl
theorem laidOut : laidOutB Try.prog = true := by kernel_rfl
open Go.Sort
set_option linter.unusedSimpArgs false
set_option maxRecDepth 100000 in
set_option maxHeartbeats 25600000 in
theorem walk (p : Pm) (vl : Value) (l : List Sv) (a1 : Option Addr) (len1 cap1 : Nat) (ys : List Int) (a2 : Option Addr) (len2 cap2 : Nat) (zs : List Int) (old : Int) (s : Sn) (at_ : Int) (w : World) (tp : p.Typed) (hv : SlAt (fun b => b < w.heap.size) 11 svC w vl l) (tl : ∀ s ∈ l, s.Typed) (hl : l.length ≤ maxLen) (iw : IsRow .u32 w a1 len1 cap1 ys) (jw : IsRow .i64 w a2 len2 cap2 zs) (wo : (Lit.int .i64 old).wf = true) (ts : s.Typed) (wa : (Lit.int .i64 at_).wf = true) :
    Calls Try.prog 4 #[p.val, vl, .slice a1 len1 cap1, .slice a2 len2 cap2, .int .i64 old, s.val, .int .i64 at_] w fun e w' => e = .returned (.bool true) ∧ Below w.heap.size w w' := by
  have bo := bounds_i64 wo
  have ba := bounds_i64 wa
  clear wo wa
  obtain ⟨ids, hid, tid, sid⟩ := iw.sl
  obtain ⟨kl, hkp, tkp, skp⟩ := jw.sl
  clear iw jw
  subst hid hkp
  obtain ⟨xl, cl, rfl⟩ := hv.slice
  have cs := shown18_any
  unfold Pm.val Sn.val
  have hX : ((w.alloc (.cells #[.int .i64 p.step, .int .i64 p.watch, .int .i64 p.panic, .int .i64 p.maxrate, .int .i64 p.phi, .int .i64 p.maxdist, .int .i64 p.gate, .int .i64 p.minpoll, .int .i64 p.maxpoll, .int .i64 p.burst, .int .i64 p.minsane, .int .i64 p.minleft] 31)).alloc (.cells #[.int .i64 s.lo, .int .i64 s.hi] 24)).heap[w.heap.size]? = some (.cells #[.int .i64 p.step, .int .i64 p.watch, .int .i64 p.panic, .int .i64 p.maxrate, .int .i64 p.phi, .int .i64 p.maxdist, .int .i64 p.gate, .int .i64 p.minpoll, .int .i64 p.maxpoll, .int .i64 p.burst, .int .i64 p.minsane, .int .i64 p.minleft] 31 (0, 0)) ∧ ((w.alloc (.cells #[.int .i64 p.step, .int .i64 p.watch, .int .i64 p.panic, .int .i64 p.maxrate, .int .i64 p.phi, .int .i64 p.maxdist, .int .i64 p.gate, .int .i64 p.minpoll, .int .i64 p.maxpoll, .int .i64 p.burst, .int .i64 p.minsane, .int .i64 p.minleft] 31)).alloc (.cells #[.int .i64 s.lo, .int .i64 s.hi] 24)).heap[w.heap.size + 1]? = some (.cells #[.int .i64 s.lo, .int .i64 s.hi] 24 (0, 0)) ∧ Below w.heap.size w ((w.alloc (.cells #[.int .i64 p.step, .int .i64 p.watch, .int .i64 p.panic, .int .i64 p.maxrate, .int .i64 p.phi, .int .i64 p.maxdist, .int .i64 p.gate, .int .i64 p.minpoll, .int .i64 p.maxpoll, .int .i64 p.burst, .int .i64 p.minsane, .int .i64 p.minleft] 31)).alloc (.cells #[.int .i64 s.lo, .int .i64 s.hi] 24)) ∧ ((w.alloc (.cells #[.int .i64 p.step, .int .i64 p.watch, .int .i64 p.panic, .int .i64 p.maxrate, .int .i64 p.phi, .int .i64 p.maxdist, .int .i64 p.gate, .int .i64 p.minpoll, .int .i64 p.maxpoll, .int .i64 p.burst, .int .i64 p.minsane, .int .i64 p.minleft] 31)).alloc (.cells #[.int .i64 s.lo, .int .i64 s.hi] 24)).heap.size = w.heap.size + 2 := by
    refine ⟨laid _ (heap_alloc_new _ _), ?_, ((Below.refl w.heap.size w).alloc (Nat.le_refl _) _).alloc (by simp) _, by rw [World.size_alloc, World.size_alloc]⟩
    have := heap_alloc_new (w.alloc (.cells #[.int .i64 p.step, .int .i64 p.watch, .int .i64 p.panic, .int .i64 p.maxrate, .int .i64 p.phi, .int .i64 p.maxdist, .int .i64 p.gate, .int .i64 p.minpoll, .int .i64 p.maxpoll, .int .i64 p.burst, .int .i64 p.minsane, .int .i64 p.minleft] 31)) (.cells #[.int .i64 s.lo, .int .i64 s.hi] 24)
    rwa [World.size_alloc] at this
  have X := Lib.hid hX
  clear hX
  have hm : l.length ≤ 9223372036854775807 := by unfold maxLen at hl; omega
  by_cases g1 : 30 < l.length
  · have i1 : (30 : Int) < l.length := by omega
    clear hv sid skp
    go_enter Try.func4, Try.ntmps4
    go_wp2_with fail
    (with_reducible refine (cs _).mono ?_)
    rintro e w1 ⟨rfl, B1⟩
    have BB := Lib.hid (X.out.2.2.1.trans (B1.mono X.out.2.2.1.size))
    clear B1
    go_wp2_with fail
    go_ret
    exact ⟨rfl, BB.out⟩
  have i1 : ¬ (30 : Int) < l.length := by omega
  by_cases g2 : 60 < ids.length
  · have i2 : (60 : Int) < ids.length := by omega
    clear hv sid skp
    go_enter Try.func4, Try.ntmps4
    go_wp2_with fail
    (with_reducible refine (cs _).mono ?_)
    rintro e w1 ⟨rfl, B1⟩
    have BB := Lib.hid (X.out.2.2.1.trans (B1.mono X.out.2.2.1.size))
    clear B1
    go_wp2_with fail
    go_ret
    exact ⟨rfl, BB.out⟩
  have i2 : ¬ (60 : Int) < ids.length := by omega
  by_cases g3 : 30 < kl.length
  · have i3 : (30 : Int) < kl.length := by omega
    clear hv sid skp
    go_enter Try.func4, Try.ntmps4
    go_wp2_with fail
    (with_reducible refine (cs _).mono ?_)
    rintro e w1 ⟨rfl, B1⟩
    have BB := Lib.hid (X.out.2.2.1.trans (B1.mono X.out.2.2.1.size))
    clear B1
    go_wp2_with fail
    go_ret
    exact ⟨rfl, BB.out⟩
  have i3 : ¬ (30 : Int) < kl.length := by omega
  have tI : ∀ x ∈ ids, 0 ≤ x ∧ x ≤ 4294967295 := fun x hx => by have := u32_bounds (tid x hx); omega
  have tK : ∀ x ∈ kl, -9223372036854775808 ≤ x ∧ x ≤ 9223372036854775807 := fun x hx => i64_bounds (tkp x hx)
  have K0 := fun W (hW : Below w.heap.size w W) => theirs18_any l (by omega) W (hv.kept fun b hb => hW.block b hb) (fun b hb => Nat.lt_of_lt_of_le hb hW.size)
  have K1 := fun W (hW : Below w.heap.size w W) => ccomb_any p tp l tl (by omega) ids (by omega) tI kl (by omega) tK old s.lo s.hi at_ bo ts.lo ts.hi ba W (hv.kept fun b hb => hW.block b hb) (sid.kept fun b hb => hW.block b hb) (skp.kept fun b hb => hW.block b hb) (fun b hb => Nat.lt_of_lt_of_le hb hW.size) (fun b hb => Nat.lt_of_lt_of_le hb hW.size) (fun b hb => Nat.lt_of_lt_of_le hb hW.size)
  have K2 := fun W (hW : Below w.heap.size w W) (G : Nat → Prop) (u : Value) (su : SlAt G 11 svC W u l) (hG : ∀ b, G b → b < W.heap.size) => rcomb18_any p tp l tl (by omega) ids (by omega) kl (by omega) tK old s.lo s.hi at_ ts.lo ts.hi ba W su (sid.kept fun b hb => hW.block b hb) (skp.kept fun b hb => hW.block b hb) hG (fun b hb => Nat.lt_of_lt_of_le hb hW.size) (fun b hb => Nat.lt_of_lt_of_le hb hW.size)
  have K3 := fun W (hW : Below w.heap.size w W) => cchoose_any l tl (by omega) kl (by omega) tK old bo W (hv.kept fun b hb => hW.block b hb) (skp.kept fun b hb => hW.block b hb) (fun b hb => Nat.lt_of_lt_of_le hb hW.size) (fun b hb => Nat.lt_of_lt_of_le hb hW.size)
  have K4 := fun W (hW : Below w.heap.size w W) (G : Nat → Prop) (u : Value) (su : SlAt G 11 svC W u l) (hG : ∀ b, G b → b < W.heap.size) => rchoose18_any l (by omega) kl (by omega) old W su (skp.kept fun b hb => hW.block b hb) hG (fun b hb => Nat.lt_of_lt_of_le hb hW.size)
  generalize combY p l ids kl old s.lo s.hi at_ = Y at *
  generalize combB l ids kl old = bb at *
  generalize leadI l kl old = ld at *
  unfold Pm.val at K1 K2
  unfold Sy.val Sy.cells at K1 K2
  have KK := Lib.hid (And.intro K0 (And.intro K1 (And.intro K2 (And.intro K3 K4))))
  clear K0 K1 K2 K3 K4 hv sid skp g1 g2 g3 tI tK tid tkp
  go_enter Try.func4, Try.ntmps4
  go_wp2_with fail
  generalize (w.alloc (.cells #[.int .i64 p.step, .int .i64 p.watch, .int .i64 p.panic, .int .i64 p.maxrate, .int .i64 p.phi, .int .i64 p.maxdist, .int .i64 p.gate, .int .i64 p.minpoll, .int .i64 p.maxpoll, .int .i64 p.burst, .int .i64 p.minsane, .int .i64 p.minleft] 31)).alloc (.cells #[.int .i64 s.lo, .int .i64 s.hi] 24) = w0 at *
  (with_reducible refine (cs _).mono ?_)
  rintro e w1 ⟨rfl, B1⟩
  obtain ⟨x0, x1, hB, z0⟩ := X.out
  have BW := hB.trans (B1.mono hB.size)
  have c0 := KK.out.1 w1 BW
  have H1 := Lib.hid (And.intro (kept x0 B1) (And.intro (kept x1 B1) BW))
  clear x0 x1 hB z0 B1 BW X cs
  go_wp2_with fail
  (with_reducible refine c0.mono ?_)
  rintro e w2 ⟨u, rfl, su, hB2⟩
  obtain ⟨x0, x1, hB⟩ := H1.out
  have BW := hB.trans (hB2.mono hB.size)
  have y0 := kept x0 hB2
  have y1 := kept x1 hB2
  obtain ⟨n0, n1, n2, n3, n4, n5, n6, n7, n8, n9, n10, n11⟩ := twelve_in18 y0
  obtain ⟨m0, m1⟩ := two_in18 y1
  have c1 := KK.out.2.1 w2 BW
  have H2 := Lib.hid (And.intro y0 (And.intro y1 (And.intro BW su)))
  clear x0 x1 hB hB2 BW y0 y1 c0 H1 su
  go_wp2_with fail
  (with_reducible refine c1.mono ?_)
  rintro e w3 ⟨rfl, hB3⟩
  clear n0 n1 n2 n3 n4 n5 n6 n7 n8 n9 n10 n11 m0 m1 c1
  go_upto_region 5 with fail
  obtain ⟨x0, x1, hB, su⟩ := H2.out
  have BA := (Below.refl w3.heap.size w3).alloc (Nat.le_refl _) (.cells #[.int .i64 Y.leap, .int .i64 Y.str, .int .u32 Y.ref, .int .i64 Y.off, .int .i64 Y.jit, .int .i64 Y.del, .int .i64 Y.disp, .int .i64 Y.peer] 39)
  have hB4 := hB3.trans (BA.mono hB3.size)
  have BW := hB.trans (hB4.mono hB.size)
  have y0 := kept x0 hB4
  have y1 := kept x1 hB4
  have sy := heap_alloc_new w3 (.cells #[.int .i64 Y.leap, .int .i64 Y.str, .int .u32 Y.ref, .int .i64 Y.off, .int .i64 Y.jit, .int .i64 Y.del, .int .i64 Y.disp, .int .i64 Y.peer] 39)
  have su4 := su.kept (fun b hb => hB4.block b hb.2)
  have hG4 : ∀ b, (w1.heap.size ≤ b ∧ b < w2.heap.size) → b < (w3.alloc (.cells #[.int .i64 Y.leap, .int .i64 Y.str, .int .u32 Y.ref, .int .i64 Y.off, .int .i64 Y.jit, .int .i64 Y.del, .int .i64 Y.disp, .int .i64 Y.peer] 39)).heap.size := fun b hb => Nat.lt_of_lt_of_le hb.2 hB4.size
  generalize w3.alloc (.cells #[.int .i64 Y.leap, .int .i64 Y.str, .int .u32 Y.ref, .int .i64 Y.off, .int .i64 Y.jit, .int .i64 Y.del, .int .i64 Y.disp, .int .i64 Y.peer] 39) = w4 at *
  obtain ⟨n0, n1, n2, n3, n4, n5, n6, n7, n8, n9, n10, n11⟩ := twelve_in18 y0
  obtain ⟨m0, m1⟩ := two_in18 y1
  have c2 := KK.out.2.2.1 w4 BW _ u su4 hG4
  have H4 := Lib.hid (And.intro BW (And.intro sy (And.intro su4 hG4)))
  clear x0 x1 hB hB3 hB4 BA BW y0 y1 H2 su sy su4 hG4
  go_wp2_with fail
  (with_reducible refine c2.mono ?_)
  rintro e w5 ⟨rfl, hB5⟩
  clear n0 n1 n2 n3 n4 n5 n6 n7 n8 n9 n10 n11 m0 m1 c2
  go_upto_region 6 with fail
  obtain ⟨BW, sy, su4, hG4⟩ := H4.out
  have BA := (Below.refl w5.heap.size w5).alloc (Nat.le_refl _) (.cells #[.int .i64 Y.leap, .int .i64 Y.str, .int .u32 Y.ref, .int .i64 Y.off, .int .i64 Y.jit, .int .i64 Y.del, .int .i64 Y.disp, .int .i64 Y.peer] 42)
  have hB6 := hB5.trans (BA.mono hB5.size)
  have B6 := BW.trans (hB6.mono BW.size)
  have sy2 := kept sy hB6
  have sz := heap_alloc_new w5 (.cells #[.int .i64 Y.leap, .int .i64 Y.str, .int .u32 Y.ref, .int .i64 Y.off, .int .i64 Y.jit, .int .i64 Y.del, .int .i64 Y.disp, .int .i64 Y.peer] 42)
  have su6 := su4.kept (fun b hb => hB6.block b (hG4 b hb))
  have hG6 : ∀ b, (w1.heap.size ≤ b ∧ b < w2.heap.size) → b < (w5.alloc (.cells #[.int .i64 Y.leap, .int .i64 Y.str, .int .u32 Y.ref, .int .i64 Y.off, .int .i64 Y.jit, .int .i64 Y.del, .int .i64 Y.disp, .int .i64 Y.peer] 42)).heap.size := fun b hb => Nat.lt_of_lt_of_le (hG4 b hb) hB6.size
  generalize w5.alloc (.cells #[.int .i64 Y.leap, .int .i64 Y.str, .int .u32 Y.ref, .int .i64 Y.off, .int .i64 Y.jit, .int .i64 Y.del, .int .i64 Y.disp, .int .i64 Y.peer] 42) = w6 at *
  obtain ⟨⟨p0, p1, p2, p3, p4, p5, p6, p7⟩, _⟩ := eight_in18 sy2
  obtain ⟨⟨q0, q1, q2, q3, q4, q5, q6, q7⟩, _⟩ := eight_in18 sz
  have c3 := KK.out.2.2.2.1 w6 B6
  have c4 := KK.out.2.2.2.2
  have H6 := Lib.hid (And.intro B6 (And.intro su6 hG6))
  clear BW sy su4 hG4 BA hB6 B6 sy2 sz su6 hG6 hB5 H4
  go_wp2_with fail
  (with_reducible refine c3.mono ?_)
  rintro e w7 ⟨rfl, hB7⟩
  have c5 := c4 w7 (H6.out.1.trans (hB7.mono H6.out.1.size)) _ u (H6.out.2.1.kept (fun b hb => hB7.block b (H6.out.2.2 b hb))) (fun b hb => Nat.lt_of_lt_of_le (H6.out.2.2 b hb) hB7.size)
  have H7 := Lib.hid (H6.out.1.trans (hB7.mono H6.out.1.size))
  clear c3 c4 hB7 H6 p0 p1 p2 p3 p4 p5 p6 p7 q0 q1 q2 q3 q4 q5 q6 q7
  go_wp2_with fail
  (with_reducible refine c5.mono ?_)
  rintro e w8 ⟨rfl, hB8⟩
  have H8 := Lib.hid (H7.out.trans (hB8.mono H7.out.size))
  clear c5 hB8 H7
  go_wp2_with fail
  go_ret
  exact ⟨by simp, H8.out⟩
set_option maxRecDepth 100000 in
theorem lifted (os : Os) (started : os.Started) (H : Type) (enc : TypeId × Value → H) :
    ReturnsInHanded {} Try.checked os 4 .any (Rows.combineTellsSpec.pre6 enc Try.prog Try.f4 Rows.combineTellsRow.domain false) (Rows.combineTellsSpec.post enc Try.prog Try.f4 false true false false) := by
  refine returnsInHanded_of_change (C := Try.checked) own started (by kernel_rfl) Try.func4
    (ChangeSpec.witness6 (enc := enc) (C := Try.checked) false ⟨#[], #[.agg #[.int .i64 0, .int .i64 0, .int .i64 0, .int .i64 0, .int .i64 0, .int .i64 0, .int .i64 0, .int .i64 0, .int .i64 0, .int .i64 0, .int .i64 0, .int .i64 0], .slice none 0 0, .slice none 0 0, .slice none 0 0, .int .i64 0, .agg #[.int .i64 0, .int .i64 0], .int .i64 0], []⟩ 8 (by kernel_rfl) (by kernel_rfl) (by kernel_rfl) (by kernel_rfl)) ?_
  intro W base args ds gs before hval0 hW hcnd _
  have hval : ∀ (j : Nat) t v, Try.f4.params[j]? = some t → args[j]? = some v → Value.okWide Try.prog W .any base t v := hval0
  have hW' := hW
  obtain ⟨p, q, hA0, hV, rfl, hfz, hnd⟩ := hW
  have hA : DataW.TrodAll enc Try.prog W 0 (fun _ => true) true Try.f4.params.toList args.toList ds p := hA0
  rw [Try.params4] at hA hval
  obtain ⟨v0, vs0, d0, ds0, p0, q0, hargs, rfl, rfl, h0, r0⟩ := trodAll_cons hA
  obtain ⟨v1, vs1, d1, ds1, p1, q1, rfl, rfl, rfl, h1, r1⟩ := trodAll_cons r0
  obtain ⟨v2, vs2, d2, ds2, p2, q2, rfl, rfl, rfl, h2, r2⟩ := trodAll_cons r1
  obtain ⟨v3, vs3, d3, ds3, p3, q3, rfl, rfl, rfl, h3, r3⟩ := trodAll_cons r2
  obtain ⟨v4, vs4, d4, ds4, p4, q4, rfl, rfl, rfl, h4, r4⟩ := trodAll_cons r3
  obtain ⟨v5, vs5, d5, ds5, p5, q5, rfl, rfl, rfl, h5, r5⟩ := trodAll_cons r4
  obtain ⟨v6, vs6, d6, ds6, p6, q6, rfl, rfl, rfl, h6, r6⟩ := trodAll_cons r5
  obtain ⟨rfl, rfl, rfl⟩ := trodAll_nil r6
  obtain rfl : args = #[v0, v1, v2, v3, v4, v5, v6] := by cases args; simp_all
  obtain ⟨rfl, rfl⟩ := trodVars_none hV
  have k0 := h0
  have lt0 : ∀ x ∈ p0, x.block < W.heap.size := by obtain ⟨m, hm⟩ := k0; exact DataW.trod_lt m _ _ _ hm
  obtain ⟨a0, rfl, w0⟩ := open_pm (hval 0 31 v0 rfl rfl) h0
  have k1 := h1
  have lt1 : ∀ x ∈ p1, x.block < W.heap.size := by obtain ⟨m, hm⟩ := k1; exact DataW.trod_lt m _ _ _ hm
  obtain ⟨a1, len1, cap1, rfl⟩ := okWide_slice Try.underlying32 (hval 1 32 v1 rfl rfl)
  obtain ⟨z1, w1a, w1b, w1c⟩ : ∃ l : List Sv, SlAt (fun b => b < W.heap.size) 11 svC W (.slice a1 len1 cap1) l ∧ (∀ f ∈ l, Sv.Typed f) ∧ l.length ≤ maxLen := by
    obtain ⟨fuel, hf⟩ := h1
    obtain ⟨v, l, hcs, h1, h2, h3⟩ := open_srvs hf
    simp [Value.cells] at hcs
    subst hcs
    exact ⟨l, h1, h2, h3⟩
  obtain ⟨a2, len2, cap2, rfl⟩ := okWide_slice Try.underlying33 (hval 2 33 v2 rfl rfl)
  have k2 := h2
  have lt2 : ∀ x ∈ p2, x.block < W.heap.size := by obtain ⟨m, hm⟩ := k2; exact DataW.trod_lt m _ _ _ hm
  obtain ⟨z2, w2⟩ : ∃ zs, IsRow .u32 W a2 len2 cap2 zs := by
    obtain ⟨fuel, hf⟩ := h2
    rcases open_ints Try.underlying33 Try.underlying37 (by kernel_rfl) hf with ⟨hcs, _⟩ | ⟨x, l, c, zs, hcs, _, hl, hm, hz, _, hcell, hwz⟩
    · simp [Value.cells] at hcs
      obtain ⟨rfl, rfl, rfl⟩ := hcs
      exact ⟨[], .inl ⟨rfl, rfl, rfl, rfl⟩⟩
    · simp [Value.cells] at hcs
      obtain ⟨rfl, rfl, rfl⟩ := hcs
      exact ⟨zs, .inr ⟨_, rfl, hl, hm, by simpa using hz, hcell, hwz⟩⟩
  obtain ⟨a3, len3, cap3, rfl⟩ := okWide_slice Try.underlying34 (hval 3 34 v3 rfl rfl)
  have k3 := h3
  have lt3 : ∀ x ∈ p3, x.block < W.heap.size := by obtain ⟨m, hm⟩ := k3; exact DataW.trod_lt m _ _ _ hm
  obtain ⟨z3, w3⟩ : ∃ zs, IsRow .i64 W a3 len3 cap3 zs := by
    obtain ⟨fuel, hf⟩ := h3
    rcases open_ints Try.underlying34 Try.underlying3 (by kernel_rfl) hf with ⟨hcs, _⟩ | ⟨x, l, c, zs, hcs, _, hl, hm, hz, _, hcell, hwz⟩
    · simp [Value.cells] at hcs
      obtain ⟨rfl, rfl, rfl⟩ := hcs
      exact ⟨[], .inl ⟨rfl, rfl, rfl, rfl⟩⟩
    · simp [Value.cells] at hcs
      obtain ⟨rfl, rfl, rfl⟩ := hcs
      exact ⟨zs, .inr ⟨_, rfl, hl, hm, by simpa using hz, hcell, hwz⟩⟩
  obtain ⟨a4, rfl, rfl, rfl, w4⟩ := open_int Try.underlying3 (hval 4 3 v4 rfl rfl) h4
  have k5 := h5
  have lt5 : ∀ x ∈ p5, x.block < W.heap.size := by obtain ⟨m, hm⟩ := k5; exact DataW.trod_lt m _ _ _ hm
  obtain ⟨a5, rfl, w5⟩ := open_sp (hval 5 24 v5 rfl rfl) h5
  obtain ⟨a6, rfl, rfl, rfl, w6⟩ := open_int Try.underlying2 (hval 6 2 v6 rfl rfl) h6
  clear hA0 hval0
  refine (walk a0 (.slice a1 len1 cap1) z1 a2 len2 cap2 z2 a3 len3 cap3 z3 a4 a5 a6 W w0 w1a w1b w1c w2 w3 w4 w5 w6).mono fun e W' ⟨he, bel⟩ => ?_
  subst he
  exact ⟨_, rfl, _, _, _, [], _, [], hW', trodAll_mk1 (shut_bool Try.underlying4 _), (trodAll_cons_mk (Below.trod laidOut (by kernel_rfl) (of_decide_eq_true (by kernel_rfl)) k0 bel lt0) (trodAll_cons_mk (Below.trod laidOut (by kernel_rfl) (of_decide_eq_true (by kernel_rfl)) k1 bel lt1) (trodAll_cons_mk (Below.trod laidOut (by kernel_rfl) (of_decide_eq_true (by kernel_rfl)) k2 bel lt2) (trodAll_cons_mk (Below.trod laidOut (by kernel_rfl) (of_decide_eq_true (by kernel_rfl)) k3 bel lt3) (trodAll_cons_mk (shut_int Try.underlying3 w4) (trodAll_cons_mk (Below.trod laidOut (by kernel_rfl) (of_decide_eq_true (by kernel_rfl)) k5 bel lt5) (trodAll_cons_mk (shut_int Try.underlying2 w6) trodAll_mk0))))))), rfl, bel.frame _, fun h => by cases h⟩

theorem over : Rows.combineTellsRow.holds Try.pinned (OpenSpec.ofChange Rows.combineTellsSpec) :=
  OpenClaim.holds_of_wide 4 Try.f4 rfl rfl rfl rfl rfl rfl rfl ⟨rfl, rfl, rfl, rfl, rfl⟩ rfl rfl rfl rfl rfl (by kernel_rfl) Try.func4 (by kernel_rfl)
    (of_decide_eq_true (by kernel_rfl)) (by unfold Func.isWrapper; first | (rw [if_pos (by decide +kernel)]; kernel_rfl) | (rw [if_neg (by decide +kernel)]; exact ⟨rfl, rfl⟩))
    (fun os started H enc _ => lifted os started H enc)

theorem proved : Rows.CombineTellsSaid := over
end Go.Proofs.Ytekdablolacgfaa.CombineTells
