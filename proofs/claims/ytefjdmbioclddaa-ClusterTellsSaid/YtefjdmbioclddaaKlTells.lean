/- ClusterTells: how far any nodes are apart, which one is worst, and which ones are kept, is the document's. No further condition. -/
import Derived.Test.YtefjdmbioclddaaCnZ
import Derived.Test.YtefjdmbioclddaaCnP
import Derived.WalkKit
import Derived.WalkSpells
import Derived.WalkLawsBesides
import Derived.Lib.Hide
import Derived.Handy
import Derived.ProofKit
import Derived.OpenShut
import Derived.ShutString
import Derived.ChangeOld
import Derived.Below
namespace Go.Proofs.Ytefjdmbioclddaa.ClusterTells
open Go.RowKit Go.Sort Go.Proofs.Ytefjdmbioclddaa.W
open Go.ChangeShapes Go.WideShapes Go.ChangeAt
open Go.ChangeMaps (open_string shut_string)
set_option linter.unusedVariables false
set_option linter.unusedSimpArgs false
theorem own : ownKnob Try.prog.godebug = none := by kernel_rfl
theorem laidOut : laidOutB Try.prog = true := by kernel_rfl
set_option maxRecDepth 100000 in
set_option maxHeartbeats 12800000 in
theorem walk (v : Value) (l : List Nd) (i least : Int) (w : World) (hv : SlAt (fun b => b < w.heap.size) 3 ndC w v l) (tl : ∀ c ∈ l, c.Typed) (hl : l.length ≤ maxLen) (wi : (Lit.int .i64 i).wf = true) (wk : (Lit.int .i64 least).wf = true) :
    Calls Try.prog 3 #[v, .int .i64 i, .int .i64 least] w fun e w' => e = .returned (.bool true) ∧ Below w.heap.size w w' := by
  have hm : l.length ≤ 9223372036854775807 := by unfold maxLen at hl; omega
  have i0 := bounds_i64 wi
  have k0 := bounds_i64 wk
  have cs := shown17_any
  have HV := Lib.hid hv
  obtain ⟨sx, sc, rfl⟩ := hv.slice
  clear hv wi wk hl
  by_cases h30 : 30 < l.length
  · have i30 : (30 : Int) < l.length := by omega
    clear HV tl
    go_enter Try.func3, Try.ntmps3
    go_wp2_with fail
    (with_reducible refine (cs _).mono ?_)
    rintro e w1 ⟨rfl, B1⟩
    go_wp2_with fail
    go_ret
    exact ⟨rfl, B1⟩
  have i30 : ¬ (30 : Int) < l.length := by omega
  have KV := fun W (hB : Below w.heap.size w W) => And.intro (HV.out.kept hB.block) (fun b (hb : b < w.heap.size) => Nat.lt_of_lt_of_le hb hB.size)
  have KT := fun W (hB : Below w.heap.size w W) => theirs17_any l (by omega) W (KV W hB).1 (KV W hB).2
  have KW := fun W (hB : Below w.heap.size w W) => cwst_any l tl (by omega) W (KV W hB).1 (KV W hB).2
  have KP := fun W (hB : Below w.heap.size w W) => cprn_any l tl (by omega) least k0 W (KV W hB).1 (KV W hB).2
  have KA := fun W (hB : Below w.heap.size w W) => capt_any l tl (by omega) i i0 W (KV W hB).1 (KV W hB).2
  have KS := fun W (hB : Below w.heap.size w W) => csprd_any l tl (by omega) W (KV W hB).1 (KV W hB).2
  have RW := fun W (u : Value) (G : Nat → Prop) (hs : SlAt G 3 ndC W u l) (hG : ∀ b, G b → b < W.heap.size) => rworst17_any l tl (by omega) W hs hG
  have RP := fun W (u : Value) (G : Nat → Prop) (hs : SlAt G 3 ndC W u l) (hG : ∀ b, G b → b < W.heap.size) => rprune17_any l tl (by omega) least k0 W hs hG
  have RA := fun W (u : Value) (G : Nat → Prop) (hs : SlAt G 3 ndC W u l) (hG : ∀ b, G b → b < W.heap.size) => rapart17_any l tl (by omega) i i0 W hs hG
  have RS := fun W (u : Value) (G : Nat → Prop) (hs : SlAt G 3 ndC W u l) (hG : ∀ b, G b → b < W.heap.size) => rspread17_any l tl (by omega) W hs hG
  have hpl : (prune l least).1.length ≤ 100000 := by have := (prune_is l least).2.2.2.1; omega
  generalize worstP l = wp at *
  generalize prune l least = pr at *
  generalize apartI l i = ap at *
  generalize spreadI l = sp at *
  obtain ⟨wp1, wp2⟩ := wp
  obtain ⟨pr1, pr2⟩ := pr
  dsimp only at KW KP RW RP hpl
  have HK := Lib.hid (And.intro KT (And.intro KW (And.intro KP (And.intro KA KS))))
  have HR := Lib.hid (And.intro RW (And.intro RP (And.intro RA RS)))
  clear KV KT KW KP KA KS RW RP RA RS tl
  go_enter Try.func3, Try.ntmps3
  go_wp2_with fail
  (with_reducible refine (cs _).mono ?_)
  rintro e w1 ⟨rfl, B⟩
  have kk := HK.out.1 _ B
  go_wp2_with fail
  (with_reducible refine kk.mono ?_)
  rintro e w2 ⟨u, rfl, hu, hb⟩
  replace B := B.trans (hb.mono B.size)
  obtain ⟨ux, uc, rfl⟩ := hu.slice
  have hU := Lib.hid hu
  have bu : ∀ b, w1.heap.size ≤ b ∧ b < w2.heap.size → b < w2.heap.size := fun b h => h.2
  clear hb kk hu cs
  have kk := HK.out.2.1 _ B
  go_wp2_with fail
  (with_reducible refine kk.mono ?_)
  rintro e w3 ⟨rfl, hb⟩
  have C := hb
  replace B := B.trans (hb.mono B.size)
  clear hb kk
  have kk := HR.out.1 w3 _ _ (hU.out.kept (fun b h => C.block b h.2)) (fun b h => Nat.lt_of_lt_of_le h.2 C.size)
  go_wp2_with fail
  (with_reducible refine kk.mono ?_)
  rintro e w4 ⟨rfl, hb⟩
  replace C := C.trans (hb.mono C.size)
  replace B := B.trans (hb.mono B.size)
  clear hb kk
  have kk := HK.out.2.2.1 _ B
  go_wp2_with fail
  (with_reducible refine kk.mono ?_)
  rintro e w5 ⟨x, rfl, hx, hb⟩
  replace C := C.trans (hb.mono C.size)
  replace B := B.trans (hb.mono B.size)
  obtain ⟨xx, xc, rfl⟩ := hx.slice
  have hX := Lib.hid hx
  clear hb kk hx
  have kk := HR.out.2.1 w5 _ _ (hU.out.kept (fun b h => C.block b h.2)) (fun b h => Nat.lt_of_lt_of_le h.2 C.size)
  go_wp2_with fail
  (with_reducible refine kk.mono ?_)
  rintro e w6 ⟨y, rfl, hy, hb⟩
  replace C := C.trans (hb.mono C.size)
  replace B := B.trans (hb.mono B.size)
  have D := hb
  have E := Below.refl w6.heap.size w6
  obtain ⟨yx, yc, rfl⟩ := hy.slice
  have hY := Lib.hid hy
  clear hb kk hy
  have kk := HK.out.2.2.2.1 _ B
  go_wp2_with fail
  (with_reducible refine kk.mono ?_)
  rintro e w7 ⟨rfl, hb⟩
  replace C := C.trans (hb.mono C.size)
  replace B := B.trans (hb.mono B.size)
  replace D := D.trans (hb.mono D.size)
  replace E := E.trans hb
  clear kk hb
  have kk := HR.out.2.2.1 w7 _ _ (hU.out.kept (fun b h => C.block b h.2)) (fun b h => Nat.lt_of_lt_of_le h.2 C.size)
  go_wp2_with fail
  (with_reducible refine kk.mono ?_)
  rintro e w8 ⟨rfl, hb⟩
  replace C := C.trans (hb.mono C.size)
  replace B := B.trans (hb.mono B.size)
  replace D := D.trans (hb.mono D.size)
  replace E := E.trans (hb.mono E.size)
  clear kk hb
  have kk := ints17_any pr1 hpl w8 (hX.out.kept (fun b h => D.block b h.2)) (hY.out.kept (fun b h => E.block b h.2)) (fun b h => Nat.lt_of_lt_of_le h.2 D.size) (fun b h => Nat.lt_of_lt_of_le h.2 E.size)
  clear D E
  go_wp2_with fail
  (with_reducible refine kk.mono ?_)
  rintro e w9 ⟨rfl, hb⟩
  replace C := C.trans (hb.mono C.size)
  replace B := B.trans (hb.mono B.size)
  clear kk hb
  have kk := HK.out.2.2.2.2 _ B
  go_wp2_with fail
  (with_reducible refine kk.mono ?_)
  rintro e w10 ⟨rfl, hb⟩
  replace C := C.trans (hb.mono C.size)
  replace B := B.trans (hb.mono B.size)
  clear kk hb
  have kk := HR.out.2.2.2 w10 _ _ (hU.out.kept (fun b h => C.block b h.2)) (fun b h => Nat.lt_of_lt_of_le h.2 C.size)
  go_wp2_with fail
  (with_reducible refine kk.mono ?_)
  rintro e w11 ⟨rfl, hb⟩
  replace B := B.trans (hb.mono B.size)
  clear kk hb
  go_wp2_with fail
  go_ret
  exact ⟨by first | rfl | (simp; done), B⟩
set_option maxRecDepth 100000 in
theorem lifted (os : Os) (started : os.Started) (H : Type) (enc : TypeId × Value → H) :
    ReturnsInHanded {} Try.checked os 3 .any (Rows.clusterTellsSpec.pre6 enc Try.prog Try.f3 Rows.clusterTellsRow.domain false) (Rows.clusterTellsSpec.post enc Try.prog Try.f3 false true false false) := by
  refine returnsInHanded_of_change (C := Try.checked) own started (by kernel_rfl) Try.func3
    (ChangeSpec.witness6 (enc := enc) (C := Try.checked) false ⟨#[], #[.slice none 0 0, .int .i64 0, .int .i64 0], []⟩ 8 (by kernel_rfl) (by kernel_rfl) (by kernel_rfl) (by kernel_rfl)) ?_
  intro W base args ds gs before hval0 hW hcnd _
  have hval : ∀ (j : Nat) t v, Try.f3.params[j]? = some t → args[j]? = some v → Value.okWide Try.prog W .any base t v := hval0
  have hW' := hW
  obtain ⟨p, q, hA0, hV, rfl, hfz, hnd⟩ := hW
  have hA : DataW.TrodAll enc Try.prog W 0 (fun _ => true) true Try.f3.params.toList args.toList ds p := hA0
  rw [Try.params3] at hA hval
  obtain ⟨v0, vs0, d0, ds0, p0, q0, hargs, rfl, rfl, h0, r0⟩ := trodAll_cons hA
  obtain ⟨v1, vs1, d1, ds1, p1, q1, rfl, rfl, rfl, h1, r1⟩ := trodAll_cons r0
  obtain ⟨v2, vs2, d2, ds2, p2, q2, rfl, rfl, rfl, h2, r2⟩ := trodAll_cons r1
  obtain ⟨rfl, rfl, rfl⟩ := trodAll_nil r2
  obtain rfl : args = #[v0, v1, v2] := by cases args; simp_all
  obtain ⟨rfl, rfl⟩ := trodVars_none hV
  have k0 := h0
  have lt0 : ∀ x ∈ p0, x.block < W.heap.size := by obtain ⟨m, hm⟩ := k0; exact DataW.trod_lt m _ _ _ hm
  obtain ⟨a0, len0, cap0, rfl⟩ := okWide_slice Try.underlying22 (hval 0 22 v0 rfl rfl)
  obtain ⟨z0, w0a, w0b, w0c⟩ : ∃ l : List Nd, SlAt (fun b => b < W.heap.size) 3 ndC W (.slice a0 len0 cap0) l ∧ (∀ f ∈ l, Nd.Typed f) ∧ l.length ≤ maxLen := by
    obtain ⟨fuel, hf⟩ := h0
    obtain ⟨v, l, hcs, h1, h2, h3⟩ := open_nds hf
    simp [Value.cells] at hcs
    subst hcs
    exact ⟨l, h1, h2, h3⟩
  obtain ⟨a1, rfl, rfl, rfl, w1⟩ := open_int Try.underlying3 (hval 1 3 v1 rfl rfl) h1
  obtain ⟨a2, rfl, rfl, rfl, w2⟩ := open_int Try.underlying3 (hval 2 3 v2 rfl rfl) h2
  clear hA0 hval0
  refine (walk (.slice a0 len0 cap0) z0 a1 a2 W w0a w0b w0c w1 w2).mono fun e W' ⟨he, bel⟩ => ?_
  subst he
  exact ⟨_, rfl, _, _, _, [], _, [], hW', trodAll_mk1 (shut_bool Try.underlying4 _), (trodAll_cons_mk (Below.trod laidOut (by kernel_rfl) (of_decide_eq_true (by kernel_rfl)) k0 bel lt0) (trodAll_cons_mk (shut_int Try.underlying3 w1) (trodAll_cons_mk (shut_int Try.underlying3 w2) trodAll_mk0))), rfl, bel.frame _, fun h => by cases h⟩

theorem over : Rows.clusterTellsRow.holds Try.pinned (OpenSpec.ofChange Rows.clusterTellsSpec) :=
  OpenClaim.holds_of_wide 3 Try.f3 rfl rfl rfl rfl rfl rfl rfl ⟨rfl, rfl, rfl, rfl, rfl⟩ rfl rfl rfl rfl rfl (by kernel_rfl) Try.func3 (by kernel_rfl)
    (of_decide_eq_true (by kernel_rfl)) (by unfold Func.isWrapper; first | (rw [if_pos (by decide +kernel)]; kernel_rfl) | (rw [if_neg (by decide +kernel)]; exact ⟨rfl, rfl⟩))
    (fun os started H enc _ => lifted os started H enc)

theorem proved : Rows.ClusterTellsSaid := over
end Go.Proofs.Ytefjdmbioclddaa.ClusterTells
