/- LoopSteps: the clock is stepped when it is set first, and else only when all offsets were far for as long as the watch. Bound of DOC.md. (Written by wip/genGt.py.) -/
import Derived.Test.YtlidlmgmijndcaaGreatLpO
import Derived.Test.YtlidlmgmijndcaaGreatLpS
import Derived.Test.YtlidlmgmijndcaaGreatQtE
import Derived.Deep.RegionHeld3
import Derived.Deep.DeepCutAuto
import Derived.BigQuiet
import Derived.WalkKit
import Derived.WalkSpells
import Derived.WalkLawsBesides
import Derived.Lib.Hide
import Derived.Handy
import Derived.ProofKit
import Derived.OpenShut
import Derived.ShutString
import Derived.ChangeOld
import Derived.Below
namespace Go.Proofs.YtlidlmgmijndcaaGreat.LoopSteps
open Go.Proofs.YtlidlmgmijndcaaGreat.W
open Go.ChangeShapes Go.WideShapes Go.ChangeAt Go.RowKit
open Go.ChangeMaps (open_string shut_string)
set_option linter.unusedVariables false
theorem own : ownKnob Tryz.prog.godebug = none := by kernel_rfl
theorem laidOut : laidOutB Tryz.prog = true := by kernel_rfl
open Go.Sort
set_option linter.unusedSimpArgs false
abbrev pmS (p : Pm) : Array Value := #[.int .i64 p.step, .int .i64 p.watch, .int .i64 p.panic, .int .i64 p.maxrate, .int .i64 p.phi, .int .i64 p.maxdist, .int .i64 p.gate, .int .i64 p.minpoll, .int .i64 p.maxpoll, .int .i64 p.burst, .int .i64 p.minsane, .int .i64 p.minleft]
abbrev dcS (d : Dc) : Array Value := #[.int .i64 d.st, .int .i64 d.at_, .int .i64 d.off, .int .i64 d.freq, .int .i64 d.jit, .int .i64 d.wan, .int .i64 d.rest]
theorem off_all {w : World} {x : Option Addr} {c : Nat} {l : List Of} {q : Nat} (h : SlAt (fun b => b < w.heap.size) 2 oferE w (.slice x l.length c) l) {o : Of} (hq : l[q]? = some o) :
    ∃ b off, x = some ⟨b, off, none⟩ ∧ ∀ wr, Below w.heap.size w wr → wr.cell? ⟨b, off + q * 2, none⟩ = some (.int .i64 o.off) ∧ wr.cell? ⟨b, off + q * 2 + 1, none⟩ = some (.int .u16 o.gap) := by
  rcases h with ⟨_, _, _, _, rfl⟩ | ⟨b, off, cap, hv, hb, hc⟩
  · simp at hq
  · obtain ⟨rfl, _⟩ := Value.slice.inj hv
    exact ⟨b, off, rfl, fun wr hB => of_at (w := wr) (b := b) (q := off + q * 2) (s := o) (fun j u hu => by rw [hB.cell hb]; exact hc q o hq j u hu)⟩
set_option maxRecDepth 100000 in
set_option maxHeartbeats 51200000 in
theorem walk (v : Value) (l : List Of) (known : Bool) (poll : Int) (w : World) (hv : SlAt (fun b => b < w.heap.size) 2 oferE w v l) (tl : ∀ o ∈ l, o.Typed) (hl : l.length ≤ maxLen) (wp : (Lit.int .u8 poll).wf = true) :
    Calls Tryz.prog 3 #[v, .bool known, .int .u8 poll] w fun e w' => e = .returned (.bool true) ∧ Below w.heap.size w w' := by
  have p0 := u8_bounds wp
  clear wp hl
  obtain ⟨a, ca, rfl⟩ := hv.slice
  have cs := shown19_any
  by_cases g1 : 300 < l.length
  · have i1 : (300 : Int) < l.length := by omega
    clear hv
    go_enter Tryz.func3, Tryz.ntmps3
    go_wp2_with fail
    (with_reducible refine (cs _).mono ?_)
    rintro e w1 ⟨rfl, B1⟩
    go_wp2_with fail
    go_ret
    exact ⟨rfl, B1⟩
  have i1 : ¬ (300 : Int) < l.length := by omega
  have HV := Lib.hid (And.intro hv tl)
  have c1 := std19_any
  have TP := std_params.typed
  have HL := std_loop
  generalize chkP stdC = p at *
  have hm : -9223372036854775807 ≤ p.maxrate := by have := HL.maxrate; omega
  have c2 := lpstart_any p TP hm 7 (by decide) known
  have hS := stp_start HL 7 known
  generalize startL p 7 known = d0 at *
  have hw1 : IntKind.i64.wrap poll = poll := by rw [IntKind.wrap_i64]; omega
  unfold Pm.val at c1 c2
  unfold Dc.val at c2
  clear hv tl
  go_enter Tryz.func3, Tryz.ntmps3
  go_wp2_with fail
  (with_reducible refine (cs _).mono ?_)
  rintro e w1 ⟨rfl, B1⟩
  go_wp2_with fail
  (with_reducible refine (c1 _).mono ?_)
  rintro e w2 ⟨rfl, g2⟩
  have B2 := B1.trans (g2.mono B1.size)
  have wlt := B2.size
  have x3 := heap_alloc_new w2 (.cells (pmS p) 25)
  have B3 := B2.alloc B2.size (.cells (pmS p) 25)
  have z3 := World.size_alloc w2 (.cells (pmS p) 25)
  have H3 := Lib.hid (And.intro x3 (And.intro B3 z3))
  clear B1 g2 B2 x3 B3 z3
  go_upto_region 4 with fail
  generalize w2.alloc (.cells (pmS p) 25) = w3 at *
  obtain ⟨n0, n1, n2, n3, n4, n5, n6, n7, n8, n9, n10, n11⟩ := twelve_atK H3.out.1
  go_wp2_with fail
  (with_reducible refine (c2 _).mono ?_)
  rintro e w4 ⟨rfl, g4⟩
  obtain ⟨x3, B3, z3⟩ := H3.out
  have B4 := B3.trans (g4.mono B3.size)
  have x4 := kept x3 g4
  have x5 := laid (.cells (dcS d0) 28) x4
  have y5 := heap_alloc_new w4 (.cells (dcS d0) 28)
  have B5 := B4.alloc B4.size (.cells (dcS d0) 28)
  have l45 : w2.heap.size < w4.heap.size := by have := g4.size; omega
  clear n0 n1 n2 n3 n4 n5 n6 n7 n8 n9 n10 n11 x3 B3 z3 g4 B4 x4 c2 H3
  go_upto_region 5 with fail
  generalize w4.alloc (.cells (dcS d0) 28) = w5 at *
  generalize w4.heap.size = bd at *
  generalize w2.heap.size = bp at *
  go_wp2_with fail
  go_loopw [9, 10, 11, 12] (fun nw si al i wx => ∃ (q : Nat) (T S : Int) (ab : Bool) (d : Dc), q ≤ l.length ∧ i = .int .i64 (q : Int) ∧ nw = .int .i64 T ∧ si = .int .i64 S ∧ al = .bool ab ∧ T ≤ (q : Int) * 281470681743360 ∧ Stp p known d S T ab ∧ wx.heap[bp]? = some (.cells (pmS p) 25 (0, 0)) ∧ wx.heap[bd]? = some (.cells (dcS d) 28 (0, 0)) ∧ Below w.heap.size w wx) (fun _ _ _ i _ => l.length - (intOf i).toNat)
  case atStart => exact ⟨0, 0, 0, false, d0, Nat.zero_le _, rfl, rfl, rfl, rfl, by omega, hS, x5, y5, B5⟩
  case round =>
    obtain ⟨q, T, S, ab, d, hq, rfl, rfl, rfl, rfl, T1, hd, hp, hdd, hB⟩ := hrel
    clear x5 y5 B5 hS
    by_cases hlt : q < l.length
    · have i2 : (q : Int) < l.length := by omega
      have i0 : (0 : Int) ≤ (q : Int) := by omega
      obtain ⟨o, ho⟩ : ∃ o, l[q]? = some o := ⟨_, List.getElem?_eq_getElem hlt⟩
      have ot := HV.out.2 o (List.mem_of_getElem? ho)
      obtain ⟨b, off, rfl, kk⟩ := off_all HV.out.1 ho
      obtain ⟨og, hog⟩ := ot
      generalize o.off = oo at *
      generalize o.gap = gp at *
      have s00 := hd.s0
      have e1 : IntKind.i64.wrap gp = gp := by rw [IntKind.wrap_i64]; omega
      have e2 : IntKind.i64.wrap (gp * 4294967296) = gp * 4294967296 := by rw [IntKind.wrap_i64]; omega
      obtain ⟨T', hT'⟩ : ∃ T', T + gp * 4294967296 = T' := ⟨_, rfl⟩
      have e3 : IntKind.i64.wrap (T + gp * 4294967296) = T' := by rw [hT', IntKind.wrap_i64]; omega
      have e4 : IntKind.i64.wrap (-p.step) = -p.step := by rw [HL.step]; exact IntWalk.i64_in _ (by omega)
      have T2 : T' ≤ ((q + 1 : Nat) : Int) * 281470681743360 := by omega
      have hd' := stp_later hd (T' := T') (by omega)
      have TR : -9223372036854775808 ≤ T' ∧ T' ≤ 9223372036854775807 := by have := hd'.s0; omega
      have e6 : IntKind.i64.wrap (T' - S) = T' - S := by have := hd'.s0; exact IntWalk.i64_in _ (by omega)
      have cU := fun W => lpupd_any p TP hm d hd.ok.t oo T' poll og TR (by omega) W
      have LF := leaf_is HL hd' TR.2 oo poll og
      generalize updL p d oo T' poll = U at *
      unfold Pm.val Dc.val at cU
      obtain ⟨k0, k1⟩ := kk _ hB
      obtain ⟨n0, n1, n2, n3, n4, n5, n6, n7, n8, n9, n10, n11⟩ := twelve_atK hp
      obtain ⟨s0, s1, s2, s3, s4, s5, s6⟩ := seven_in19 hdd
      have CU := Lib.hid cU
      have LL := Lib.hid (And.intro LF (And.intro hd' (And.intro T2 (And.intro TR (And.intro kk og)))))
      have HH := Lib.hid (And.intro hp (And.intro hdd hB))
      clear cU LF hp hdd hB hd hd' T1 T2 hT' ho hog kk s00 TR og n1 n2 n3 n4 n5 n6 n7 n8 n9 n10 n11 s1 s2 s3 s4 s5 s6 HL c1 cs
      go_upto_region 12 with fail
      clear k1 e1 e2 e3
      go_cut [13] from 31 to 147 (fun f wx => f = .bool (farB p oo) ∧ wx.heap[bp]? = some (.cells (pmS p) 25 (0, 0)) ∧ wx.heap[bd]? = some (.cells (dcS d) 28 (0, 0)) ∧ Below w.heap.size w wx)
      case first =>
        have hf : (decide (p.step < oo) = true) ∨ (decide (p.step < oo) = false ∧ decide (oo < -p.step) = true) ∨ (decide (p.step < oo) = false ∧ decide (oo < -p.step) = false) := by
          by_cases h : p.step < oo
          · exact .inl (decide_eq_true h)
          · by_cases h' : oo < -p.step
            · exact .inr (.inl ⟨decide_eq_false h, decide_eq_true h'⟩)
            · exact .inr (.inr ⟨decide_eq_false h, decide_eq_false h'⟩)
        have HF := Lib.hid hf
        clear hf
        rcases HF.out with f1 | ⟨f1, f2⟩ | ⟨f1, f2⟩
        · go_quiet (fail)
          go_wp2_with fail
          go_meet
          obtain ⟨hp, hdd, hB⟩ := HH.out
          exact ⟨by unfold farB; rw [f1]; rfl, hp, hdd, below_drewN hB _⟩
        · go_quiet (fail)
          go_wp2_with fail
          go_meet
          obtain ⟨hp, hdd, hB⟩ := HH.out
          exact ⟨by unfold farB; rw [f1, f2]; rfl, hp, hdd, below_drewN hB _⟩
        · go_quiet (fail)
          go_wp2_with fail
          go_meet
          obtain ⟨hp, hdd, hB⟩ := HH.out
          exact ⟨by unfold farB; rw [f1, f2]; rfl, hp, hdd, below_drewN hB _⟩
      case rest =>
        obtain ⟨rfl, hp, hdd, hB⟩ := hcut
        clear HH k0 n0 s0
        obtain ⟨wk, rfl⟩ : ∃ wk : World, wk = wc := ⟨_, rfl⟩
        obtain ⟨s0, s1, s2, s3, s4, s5, s6⟩ := seven_in19 hdd
        have HH := Lib.hid (And.intro hp (And.intro hdd hB))
        clear hp hdd hB s1 s2 s3 s4 s5 s6
        generalize hfb : farB p oo = fb at *
        have HFB := Lib.hid hfb
        clear hfb
        go_upto_region 13 with fail
        go_cut [14] from 31 to 147 (fun s wx => s = .bool (firstB d) ∧ wx = wk)
        case first =>
          have hs : ((d.st == 0) = true) ∨ ((d.st == 0) = false ∧ (d.st == 1) = true) ∨ ((d.st == 0) = false ∧ (d.st == 1) = false) := by
            cases h : d.st == 0
            · cases h' : d.st == 1
              · exact .inr (.inr ⟨rfl, rfl⟩)
              · exact .inr (.inl ⟨rfl, rfl⟩)
            · exact .inl rfl
          have HG := Lib.hid hs
          clear hs
          rcases HG.out with h1 | ⟨h1, h2⟩ | ⟨h1, h2⟩
          · go_wp2_with fail
            go_meet
            exact ⟨by unfold firstB; rw [h1]; rfl, rfl⟩
          · go_wp2_with fail
            go_meet
            exact ⟨by unfold firstB; rw [h1, h2]; rfl, rfl⟩
          · go_wp2_with fail
            go_meet
            exact ⟨by unfold firstB; rw [h1, h2]; rfl, rfl⟩
        case rest =>
          obtain ⟨rfl, rfl⟩ := hcut
          clear s0
          generalize hsb : firstB d = sb at *
          have HSB := Lib.hid hsb
          clear hsb
          have cU := CU.out
          obtain ⟨hp, hdd, hB⟩ := HH.out
          have k0 := (LL.out.2.2.2.2.1 _ hB).1
          obtain ⟨n0, n1, n2, n3, n4, n5, n6, n7, n8, n9, n10, n11⟩ := twelve_atK hp
          obtain ⟨s0, s1, s2, s3, s4, s5, s6⟩ := seven_in19 hdd
          have r0 := cell_regrown n0
          have r1 := cell_regrown n1
          have r2 := cell_regrown n2
          have r3 := cell_regrown n3
          have r4 := cell_regrown n4
          have r5 := cell_regrown n5
          have r6 := cell_regrown n6
          have r7 := cell_regrown n7
          have r8 := cell_regrown n8
          have r9 := cell_regrown n9
          have r10 := cell_regrown n10
          have r11 := cell_regrown n11
          have t0 := cell_regrown s0
          have t1 := cell_regrown s1
          have t2 := cell_regrown s2
          have t3 := cell_regrown s3
          have t4 := cell_regrown s4
          have t5 := cell_regrown s5
          have t6 := cell_regrown s6
          have u0 := cell_regrown k0
          clear CU hp hdd hB k0 n0 n1 n2 n3 n4 n5 n6 n7 n8 n9 n10 n11 s0 s1 s2 s3 s4 s5 s6
          go_upto_region 14 with fail
          refine wp_region_noPanic ?_
          refine wp_region_grow 20 4 [0, 1, 2, 3, 4, 5, 6, 7, 8, 9, 10, 11, 12, 13, 14, 15] (by kernel_rfl) (by kernel_rfl) (fun _ _ _ _ _ h => h) (fun sh => ?_)
          simp only [List.filterMap_cons, List.filterMap_nil, List.getElem?_toArray, List.getElem?_cons_succ, List.getElem?_cons_zero]
          repeat (refine wpG_step (fun K hK => ?_); go_simp; first | (refine hK _ ?_; clear hK K) | (apply Exists.intro; refine ⟨fun _ => ?_, hK _ ?_⟩; (exact cU _); clear hK K))
          refine wpG_nil ?_
          intro v0 hv0 iv
          have q0 := heap_alloc_new v0 (.cells #[.int .i64 0, .int .i64 0, .int .i64 0, .int .i64 0, .int .i64 0, .int .i64 0, .int .i64 0] 28)
          have lb := hv0.size
          have B0 := hv0.alloc hv0.size (.cells #[.int .i64 0, .int .i64 0, .int .i64 0, .int .i64 0, .int .i64 0, .int .i64 0, .int .i64 0] 28)
          refine headG_one (i := 16) (by kernel_rfl) (OneG.step rfl (fun K hK => ?_))
          go_simp
          refine hK _ _ (regrown_of_below B0) ?_
          clear hK K
          intro v1 hv1
          have nb := kept q0 hv1
          have B1 := B0.trans (hv1.mono B0.size)
          generalize v0.heap.size = bx at nb lb ⊢
          clear q0 B0
          have th := thaw19 nb
          obtain ⟨y0, y1, y2, y3, y4, y5, y6⟩ := seven_in19 nb
          have th0 := th 0
          have th1 := th 1
          have th2 := th 2
          have th3 := th 3
          have th4 := th 4
          have th5 := th 5
          have th6 := th 6
          have C1 := seven_new19 (.int .i64 U.d.st) (.int .i64 U.d.at_) (.int .i64 U.d.off) (.int .i64 U.d.freq) (.int .i64 U.d.jit) (.int .i64 U.d.wan) (.int .i64 U.d.rest) nb
          have C2 := seven_below19 (.int .i64 U.d.st) (.int .i64 U.d.at_) (.int .i64 U.d.off) (.int .i64 U.d.freq) (.int .i64 U.d.jit) (.int .i64 U.d.wan) (.int .i64 U.d.rest) B1 lb
          refine headG_one (i := 17) (by kernel_rfl) (OneG.step rfl (fun K hK => ?_))
          go_simp
          refine hK _ _ (regrown_of_below C2) ?_
          clear hK K y0 y1 y2 y3 y4 y5 y6 th th0 th1 th2 th3 th4 th5 th6
          intro v2 hv2
          have hx := kept C1 hv2
          have B2 := C2.trans (hv2.mono C2.size)
          clear C1 C2 nb B1
          refine headG_takes (g := 0) sh [18, 19] _ _ _ (inv_ok [16, 17] _ iv (by kernel_rfl)) (by kernel_rfl) (regrown_of_below B2) ?_
          simp only [List.filterMap_cons, List.filterMap_nil, List.getElem?_toArray, List.getElem?_cons_succ, List.getElem?_cons_zero]
          repeat (refine wpG_step (fun K hK => ?_); go_simp; first | (refine hK _ ?_; clear hK K) | (apply Exists.intro; refine ⟨fun _ => ?_, hK _ ?_⟩; (fail); clear hK K))
          refine wpG_nil ?_
          intro v3 hv3
          refine ⟨by kernel_rfl, ?_⟩
          simp only [List.drop_succ_cons, List.drop_zero]
          go_wp2_with fail
          refine NoPanic.normal ?_
          have B3 := B2.trans (hv3.mono B2.size)
          have hx3 := kept hx hv3
          obtain ⟨hp, hdd, hB⟩ := HH.out
          have lbd := (Array.getElem?_eq_some_iff.1 hdd).1
          have lbp := (Array.getElem?_eq_some_iff.1 hp).1
          have hp3 := kept hp B3
          have hd3 := kept hdd B3
          have HB3 := hB.trans (B3.mono hB.size)
          have nbp : bp ≠ bd := by omega
          have nbx : bx ≠ bd := by omega
          have wbd : w.heap.size ≤ bd := by omega
          clear hp hdd hB B2 B3 hx hv2 hv3 r0 r1 r2 r3 r4 r5 r6 r7 r8 r9 r10 r11 t0 t1 t2 t3 t4 t5 t6 u0 cU hv0 hv1 iv sh HH lb lbd lbp
          have HH := Lib.hid (And.intro hp3 (And.intro hd3 (And.intro hx3 HB3)))
          obtain ⟨n0, n1, n2, n3, n4, n5, n6, n7, n8, n9, n10, n11⟩ := twelve_atK hp3
          obtain ⟨s0, s1, s2, s3, s4, s5, s6⟩ := seven_in19 hd3
          obtain ⟨x0, x1, x2, x3, x4, x5, x6⟩ := seven_in19 hx3
          have th := thaw19 hd3
          have th0 := th 0
          have th1 := th 1
          have th2 := th 2
          have th3 := th 3
          have th4 := th 4
          have th5 := th 5
          have th6 := th 6
          clear th hp3 hd3 hx3 HB3 n0 n2 n3 n4 n5 n6 n7 n8 n9 n10 n11
          have LF := LL.out.1.it
          have T2 := LL.out.2.2.1
          have hd' := LL.out.2.1
          have WT := Lib.hid (And.intro T2 hd')
          clear LL T2 hd'
          rcases LF with ⟨hu, ⟨f1, f2⟩ | f1⟩ | ⟨he, f1, f2, f3, f4, st⟩ | ⟨he, f1, f2, f3, f4, st⟩ | ⟨he, f1, f2, f3, f4, st⟩ | ⟨he, f1, f2, f3, f4, f5, st⟩ | ⟨he, f1, f2, f3, st⟩ | ⟨he, f1, f2, f3, st⟩
          · have g1 : sb = true := HSB.out.symm.trans f1
            subst g1 f2
            have hud : U.d = d := by rw [hu]
            have hue : U.e = 190 := by rw [hu]
            have huk : U.k = 0 := by rw [hu]
            have hub : U.by_ = 0 := by rw [hu]
            clear hu f1
            have hne := fun W => dc_ne d W
            unfold Dc.val at hne
            rw [hue, huk, hub]
            simp only [hud] at x0 x1 x2 x3 x4 x5 x6
            clear hud hue huk hub
            go_wp2_with fail
            go_roundw
            case rel => exact ⟨q + 1, T', S, ab, d, by omega, by go_num, rfl, rfl, rfl, WT.out.1, WT.out.2, HH.out.1, HH.out.2.1, HH.out.2.2.2⟩
            case measure => simp [intOf]; omega
          · have g1 : sb = false := HSB.out.symm.trans f1
            subst g1
            have hud : U.d = d := by rw [hu]
            have hue : U.e = 190 := by rw [hu]
            have huk : U.k = 0 := by rw [hu]
            have hub : U.by_ = 0 := by rw [hu]
            clear hu f1
            have hne := fun W => dc_ne d W
            unfold Dc.val at hne
            rw [hue, huk, hub]
            simp only [hud] at x0 x1 x2 x3 x4 x5 x6
            clear hud hue huk hub
            go_wp2_with fail
            go_roundw
            case rel => exact ⟨q + 1, T', S, ab, d, by omega, by go_num, rfl, rfl, rfl, WT.out.1, WT.out.2, HH.out.1, HH.out.2.1, HH.out.2.2.2⟩
            case measure => simp [intOf]; omega
          · have g1 : fb = true := HFB.out.symm.trans f1
            have g2 : sb = true := HSB.out.symm.trans f2
            have ST := Lib.hid st
            subst g1 g2 f3
            clear f1 f2 st
            rw [he, f4]
            clear he f4
            go_upto_region 25 with fail
            obtain ⟨hp3, hd3, hx3, HB3⟩ := HH.out
            have hq3 := seven_new19 (.int .i64 U.d.st) (.int .i64 U.d.at_) (.int .i64 U.d.off) (.int .i64 U.d.freq) (.int .i64 U.d.jit) (.int .i64 U.d.wan) (.int .i64 U.d.rest) hd3
            have hb3 := seven_below19 (.int .i64 U.d.st) (.int .i64 U.d.at_) (.int .i64 U.d.off) (.int .i64 U.d.freq) (.int .i64 U.d.jit) (.int .i64 U.d.wan) (.int .i64 U.d.rest) HB3 wbd
            have hr3 := (seven_far19 (.int .i64 U.d.st) (.int .i64 U.d.at_) (.int .i64 U.d.off) (.int .i64 U.d.freq) (.int .i64 U.d.jit) (.int .i64 U.d.wan) (.int .i64 U.d.rest) nbp).trans hp3
            have K8 := Lib.hid (And.intro hr3 (And.intro hq3 hb3))
            clear hp3 hd3 hx3 HB3 hq3 hb3 hr3
            go_upto_region 10 with fail
            clear s0 s1 s2 s3 s4 s5 s6 x0 x1 x2 x3 x4 x5 x6 th0 th1 th2 th3 th4 th5 th6 n1
            generalize ((((((v3.setCell ⟨bd, 0, none⟩ (.int .i64 U.d.st)).setCell ⟨bd, 1, none⟩ (.int .i64 U.d.at_)).setCell ⟨bd, 2, none⟩ (.int .i64 U.d.off)).setCell ⟨bd, 3, none⟩ (.int .i64 U.d.freq)).setCell ⟨bd, 4, none⟩ (.int .i64 U.d.jit)).setCell ⟨bd, 5, none⟩ (.int .i64 U.d.wan)).setCell ⟨bd, 6, none⟩ (.int .i64 U.d.rest) = w9 at *
            go_wp2_with fail
            go_roundw
            case rel =>
              obtain ⟨hr3, hq3, hb3⟩ := K8.out
              exact ⟨q + 1, T', T', false, U.d, by omega, by go_num, rfl, rfl, rfl, WT.out.1, ST.out, hr3, hq3, hb3⟩
            case measure => simp [intOf]; omega
          · have g1 : fb = true := HFB.out.symm.trans f1
            have g2 : sb = false := HSB.out.symm.trans f2
            have ST := Lib.hid st
            subst g1 g2 f3
            clear f1 f2 st
            rw [he, f4]
            clear he f4
            go_upto_region 25 with fail
            obtain ⟨hp3, hd3, hx3, HB3⟩ := HH.out
            have hq3 := seven_new19 (.int .i64 U.d.st) (.int .i64 U.d.at_) (.int .i64 U.d.off) (.int .i64 U.d.freq) (.int .i64 U.d.jit) (.int .i64 U.d.wan) (.int .i64 U.d.rest) hd3
            have hb3 := seven_below19 (.int .i64 U.d.st) (.int .i64 U.d.at_) (.int .i64 U.d.off) (.int .i64 U.d.freq) (.int .i64 U.d.jit) (.int .i64 U.d.wan) (.int .i64 U.d.rest) HB3 wbd
            have hr3 := (seven_far19 (.int .i64 U.d.st) (.int .i64 U.d.at_) (.int .i64 U.d.off) (.int .i64 U.d.freq) (.int .i64 U.d.jit) (.int .i64 U.d.wan) (.int .i64 U.d.rest) nbp).trans hp3
            have K8 := Lib.hid (And.intro hr3 (And.intro hq3 hb3))
            clear hp3 hd3 hx3 HB3 hq3 hb3 hr3
            go_upto_region 10 with fail
            clear s0 s1 s2 s3 s4 s5 s6 x0 x1 x2 x3 x4 x5 x6 th0 th1 th2 th3 th4 th5 th6 n1
            generalize ((((((v3.setCell ⟨bd, 0, none⟩ (.int .i64 U.d.st)).setCell ⟨bd, 1, none⟩ (.int .i64 U.d.at_)).setCell ⟨bd, 2, none⟩ (.int .i64 U.d.off)).setCell ⟨bd, 3, none⟩ (.int .i64 U.d.freq)).setCell ⟨bd, 4, none⟩ (.int .i64 U.d.jit)).setCell ⟨bd, 5, none⟩ (.int .i64 U.d.wan)).setCell ⟨bd, 6, none⟩ (.int .i64 U.d.rest) = w9 at *
            go_wp2_with fail
            go_roundw
            case rel =>
              obtain ⟨hr3, hq3, hb3⟩ := K8.out
              exact ⟨q + 1, T', T', true, U.d, by omega, by go_num, rfl, rfl, rfl, WT.out.1, ST.out, hr3, hq3, hb3⟩
            case measure => simp [intOf]; omega
          · have g1 : fb = true := HFB.out.symm.trans f1
            have g2 : sb = false := HSB.out.symm.trans f2
            have ST := Lib.hid st
            subst g1 g2 f3
            clear f1 f2 st
            rw [he, f4]
            clear he f4
            go_upto_region 25 with fail
            obtain ⟨hp3, hd3, hx3, HB3⟩ := HH.out
            have hq3 := seven_new19 (.int .i64 U.d.st) (.int .i64 U.d.at_) (.int .i64 U.d.off) (.int .i64 U.d.freq) (.int .i64 U.d.jit) (.int .i64 U.d.wan) (.int .i64 U.d.rest) hd3
            have hb3 := seven_below19 (.int .i64 U.d.st) (.int .i64 U.d.at_) (.int .i64 U.d.off) (.int .i64 U.d.freq) (.int .i64 U.d.jit) (.int .i64 U.d.wan) (.int .i64 U.d.rest) HB3 wbd
            have hr3 := (seven_far19 (.int .i64 U.d.st) (.int .i64 U.d.at_) (.int .i64 U.d.off) (.int .i64 U.d.freq) (.int .i64 U.d.jit) (.int .i64 U.d.wan) (.int .i64 U.d.rest) nbp).trans hp3
            have K8 := Lib.hid (And.intro hr3 (And.intro hq3 hb3))
            clear hp3 hd3 hx3 HB3 hq3 hb3 hr3
            go_upto_region 10 with fail
            clear s0 s1 s2 s3 s4 s5 s6 x0 x1 x2 x3 x4 x5 x6 th0 th1 th2 th3 th4 th5 th6 n1
            generalize ((((((v3.setCell ⟨bd, 0, none⟩ (.int .i64 U.d.st)).setCell ⟨bd, 1, none⟩ (.int .i64 U.d.at_)).setCell ⟨bd, 2, none⟩ (.int .i64 U.d.off)).setCell ⟨bd, 3, none⟩ (.int .i64 U.d.freq)).setCell ⟨bd, 4, none⟩ (.int .i64 U.d.jit)).setCell ⟨bd, 5, none⟩ (.int .i64 U.d.wan)).setCell ⟨bd, 6, none⟩ (.int .i64 U.d.rest) = w9 at *
            go_wp2_with fail
            go_roundw
            case rel =>
              obtain ⟨hr3, hq3, hb3⟩ := K8.out
              exact ⟨q + 1, T', S, true, U.d, by omega, by go_num, rfl, rfl, rfl, WT.out.1, ST.out, hr3, hq3, hb3⟩
            case measure => simp [intOf]; omega
          · have g1 : fb = true := HFB.out.symm.trans f1
            have g2 : sb = false := HSB.out.symm.trans f2
            have ST := Lib.hid st
            have dW : decide (T' - S < p.watch) = false := decide_eq_false (by omega)
            clear f5
            subst g1 g2 f3
            clear f1 f2 st
            rw [he, f4]
            clear he f4
            go_upto_region 25 with fail
            obtain ⟨hp3, hd3, hx3, HB3⟩ := HH.out
            have hq3 := seven_new19 (.int .i64 U.d.st) (.int .i64 U.d.at_) (.int .i64 U.d.off) (.int .i64 U.d.freq) (.int .i64 U.d.jit) (.int .i64 U.d.wan) (.int .i64 U.d.rest) hd3
            have hb3 := seven_below19 (.int .i64 U.d.st) (.int .i64 U.d.at_) (.int .i64 U.d.off) (.int .i64 U.d.freq) (.int .i64 U.d.jit) (.int .i64 U.d.wan) (.int .i64 U.d.rest) HB3 wbd
            have hr3 := (seven_far19 (.int .i64 U.d.st) (.int .i64 U.d.at_) (.int .i64 U.d.off) (.int .i64 U.d.freq) (.int .i64 U.d.jit) (.int .i64 U.d.wan) (.int .i64 U.d.rest) nbp).trans hp3
            have K8 := Lib.hid (And.intro hr3 (And.intro hq3 hb3))
            clear hp3 hd3 hx3 HB3 hq3 hb3 hr3
            go_upto_region 10 with fail
            clear s0 s1 s2 s3 s4 s5 s6 x0 x1 x2 x3 x4 x5 x6 th0 th1 th2 th3 th4 th5 th6 n1
            generalize ((((((v3.setCell ⟨bd, 0, none⟩ (.int .i64 U.d.st)).setCell ⟨bd, 1, none⟩ (.int .i64 U.d.at_)).setCell ⟨bd, 2, none⟩ (.int .i64 U.d.off)).setCell ⟨bd, 3, none⟩ (.int .i64 U.d.freq)).setCell ⟨bd, 4, none⟩ (.int .i64 U.d.jit)).setCell ⟨bd, 5, none⟩ (.int .i64 U.d.wan)).setCell ⟨bd, 6, none⟩ (.int .i64 U.d.rest) = w9 at *
            go_wp2_with fail
            go_roundw
            case rel =>
              obtain ⟨hr3, hq3, hb3⟩ := K8.out
              exact ⟨q + 1, T', S, false, U.d, by omega, by go_num, rfl, rfl, rfl, WT.out.1, ST.out, hr3, hq3, hb3⟩
            case measure => simp [intOf]; omega
          · have g1 : fb = false := HFB.out.symm.trans f1
            have g2 : sb = true := HSB.out.symm.trans f2
            have ST := Lib.hid st
            subst g1 g2
            clear f1 f2 st
            rw [he, f3]
            clear he f3
            go_upto_region 25 with fail
            obtain ⟨hp3, hd3, hx3, HB3⟩ := HH.out
            have hq3 := seven_new19 (.int .i64 U.d.st) (.int .i64 U.d.at_) (.int .i64 U.d.off) (.int .i64 U.d.freq) (.int .i64 U.d.jit) (.int .i64 U.d.wan) (.int .i64 U.d.rest) hd3
            have hb3 := seven_below19 (.int .i64 U.d.st) (.int .i64 U.d.at_) (.int .i64 U.d.off) (.int .i64 U.d.freq) (.int .i64 U.d.jit) (.int .i64 U.d.wan) (.int .i64 U.d.rest) HB3 wbd
            have hr3 := (seven_far19 (.int .i64 U.d.st) (.int .i64 U.d.at_) (.int .i64 U.d.off) (.int .i64 U.d.freq) (.int .i64 U.d.jit) (.int .i64 U.d.wan) (.int .i64 U.d.rest) nbp).trans hp3
            have K8 := Lib.hid (And.intro hr3 (And.intro hq3 hb3))
            clear hp3 hd3 hx3 HB3 hq3 hb3 hr3
            go_upto_region 10 with fail
            clear s0 s1 s2 s3 s4 s5 s6 x0 x1 x2 x3 x4 x5 x6 th0 th1 th2 th3 th4 th5 th6 n1
            generalize ((((((v3.setCell ⟨bd, 0, none⟩ (.int .i64 U.d.st)).setCell ⟨bd, 1, none⟩ (.int .i64 U.d.at_)).setCell ⟨bd, 2, none⟩ (.int .i64 U.d.off)).setCell ⟨bd, 3, none⟩ (.int .i64 U.d.freq)).setCell ⟨bd, 4, none⟩ (.int .i64 U.d.jit)).setCell ⟨bd, 5, none⟩ (.int .i64 U.d.wan)).setCell ⟨bd, 6, none⟩ (.int .i64 U.d.rest) = w9 at *
            go_wp2_with fail
            go_roundw
            case rel =>
              obtain ⟨hr3, hq3, hb3⟩ := K8.out
              exact ⟨q + 1, T', S, false, U.d, by omega, by go_num, rfl, rfl, rfl, WT.out.1, ST.out, hr3, hq3, hb3⟩
            case measure => simp [intOf]; omega
          · have g1 : fb = false := HFB.out.symm.trans f1
            have g2 : sb = false := HSB.out.symm.trans f2
            have ST := Lib.hid st
            have dK : (U.k == 2) = false := beq_eq_false_iff_ne.2 (by omega)
            clear f3
            subst g1 g2
            clear f1 f2 st
            rw [he]
            clear he
            go_upto_region 25 with fail
            obtain ⟨hp3, hd3, hx3, HB3⟩ := HH.out
            have hq3 := seven_new19 (.int .i64 U.d.st) (.int .i64 U.d.at_) (.int .i64 U.d.off) (.int .i64 U.d.freq) (.int .i64 U.d.jit) (.int .i64 U.d.wan) (.int .i64 U.d.rest) hd3
            have hb3 := seven_below19 (.int .i64 U.d.st) (.int .i64 U.d.at_) (.int .i64 U.d.off) (.int .i64 U.d.freq) (.int .i64 U.d.jit) (.int .i64 U.d.wan) (.int .i64 U.d.rest) HB3 wbd
            have hr3 := (seven_far19 (.int .i64 U.d.st) (.int .i64 U.d.at_) (.int .i64 U.d.off) (.int .i64 U.d.freq) (.int .i64 U.d.jit) (.int .i64 U.d.wan) (.int .i64 U.d.rest) nbp).trans hp3
            have K8 := Lib.hid (And.intro hr3 (And.intro hq3 hb3))
            clear hp3 hd3 hx3 HB3 hq3 hb3 hr3
            go_upto_region 10 with fail
            clear s0 s1 s2 s3 s4 s5 s6 x0 x1 x2 x3 x4 x5 x6 th0 th1 th2 th3 th4 th5 th6 n1
            generalize ((((((v3.setCell ⟨bd, 0, none⟩ (.int .i64 U.d.st)).setCell ⟨bd, 1, none⟩ (.int .i64 U.d.at_)).setCell ⟨bd, 2, none⟩ (.int .i64 U.d.off)).setCell ⟨bd, 3, none⟩ (.int .i64 U.d.freq)).setCell ⟨bd, 4, none⟩ (.int .i64 U.d.jit)).setCell ⟨bd, 5, none⟩ (.int .i64 U.d.wan)).setCell ⟨bd, 6, none⟩ (.int .i64 U.d.rest) = w9 at *
            go_wp2_with fail
            go_roundw
            case rel =>
              obtain ⟨hr3, hq3, hb3⟩ := K8.out
              exact ⟨q + 1, T', S, false, U.d, by omega, by go_num, rfl, rfl, rfl, WT.out.1, ST.out, hr3, hq3, hb3⟩
            case measure => simp [intOf]; omega
    · have eq : q = l.length := by omega
      subst eq
      have i3 : ¬ (l.length : Int) < (l.length : Int) := by omega
      have BB := Lib.hid hB
      clear hp hdd hB hd
      go_wp2_with fail
      go_ret
      exact ⟨rfl, BB.out⟩
set_option maxRecDepth 100000 in
theorem lifted (os : Os) (started : os.Started) (H : Type) (enc : TypeId × Value → H) :
    ReturnsInHanded {} Tryz.checked os 3 .any (Rows.loopStepsSpec.pre6 enc Tryz.prog Tryz.f3 Rows.loopStepsRow.domain false) (Rows.loopStepsSpec.post enc Tryz.prog Tryz.f3 false true false false) := by
  refine returnsInHanded_of_change (C := Tryz.checked) own started (by kernel_rfl) Tryz.func3
    (ChangeSpec.witness6 (enc := enc) (C := Tryz.checked) false ⟨#[], #[.slice none 0 0, .bool false, .int .u8 0], []⟩ 8 (by kernel_rfl) (by kernel_rfl) (by kernel_rfl) (by kernel_rfl)) ?_
  intro W base args ds gs before hval0 hW hcnd _
  have hval : ∀ (j : Nat) t v, Tryz.f3.params[j]? = some t → args[j]? = some v → Value.okWide Tryz.prog W .any base t v := hval0
  have hW' := hW
  obtain ⟨p, q, hA0, hV, rfl, hfz, hnd⟩ := hW
  have hA : DataW.TrodAll enc Tryz.prog W 0 (fun _ => true) true Tryz.f3.params.toList args.toList ds p := hA0
  rw [Tryz.params3] at hA hval
  obtain ⟨v0, vs0, d0, ds0, p0, q0, hargs, rfl, rfl, h0, r0⟩ := trodAll_cons hA
  obtain ⟨v1, vs1, d1, ds1, p1, q1, rfl, rfl, rfl, h1, r1⟩ := trodAll_cons r0
  obtain ⟨v2, vs2, d2, ds2, p2, q2, rfl, rfl, rfl, h2, r2⟩ := trodAll_cons r1
  obtain ⟨rfl, rfl, rfl⟩ := trodAll_nil r2
  obtain rfl : args = #[v0, v1, v2] := by cases args; simp_all
  obtain ⟨rfl, rfl⟩ := trodVars_none hV
  have k0 := h0
  have lt0 : ∀ x ∈ p0, x.block < W.heap.size := by obtain ⟨m, hm⟩ := k0; exact DataW.trod_lt m _ _ _ hm
  obtain ⟨a0, len0, cap0, rfl⟩ := okWide_slice Tryz.underlying22 (hval 0 22 v0 rfl rfl)
  obtain ⟨z0, w0a, w0b, w0c⟩ : ∃ l : List Of, SlAt (fun b => b < W.heap.size) 2 oferE W (.slice a0 len0 cap0) l ∧ (∀ f ∈ l, Of.Typed f) ∧ l.length ≤ maxLen := by
    obtain ⟨fuel, hf⟩ := h0
    obtain ⟨v, l, hcs, h1, h2, h3⟩ := open_ofs hf
    simp [Value.cells] at hcs
    subst hcs
    exact ⟨l, h1, h2, h3⟩
  obtain ⟨a1, rfl, rfl, rfl⟩ := open_bool Tryz.underlying4 (hval 1 4 v1 rfl rfl) h1
  obtain ⟨a2, rfl, rfl, rfl, w2⟩ := open_int Tryz.underlying5 (hval 2 5 v2 rfl rfl) h2
  clear hA0 hval0
  refine (walk (.slice a0 len0 cap0) z0 a1 a2 W w0a w0b w0c w2).mono fun e W' ⟨he, bel⟩ => ?_
  subst he
  exact ⟨_, rfl, _, _, _, [], _, [], hW', trodAll_mk1 (shut_bool Tryz.underlying4 _), (trodAll_cons_mk (Below.trod laidOut (by kernel_rfl) (of_decide_eq_true (by kernel_rfl)) k0 bel lt0) (trodAll_cons_mk (shut_bool Tryz.underlying4 _) (trodAll_cons_mk (shut_int Tryz.underlying5 w2) trodAll_mk0))), rfl, bel.frame _, fun h => by cases h⟩

theorem over : Rows.loopStepsRow.holds Tryz.pinned (OpenSpec.ofChange Rows.loopStepsSpec) :=
  OpenClaim.holds_of_wide 3 Tryz.f3 rfl rfl rfl rfl rfl rfl rfl ⟨rfl, rfl, rfl, rfl, rfl⟩ rfl rfl rfl rfl rfl (by kernel_rfl) Tryz.func3 (by kernel_rfl)
    (of_decide_eq_true (by kernel_rfl)) (by unfold Func.isWrapper; first | (rw [if_pos (by decide +kernel)]; kernel_rfl) | (rw [if_neg (by decide +kernel)]; exact ⟨rfl, rfl⟩))
    (fun os started H enc _ => lifted os started H enc)

theorem proved : Rows.LoopStepsSaid := over
end Go.Proofs.YtlidlmgmijndcaaGreat.LoopSteps
