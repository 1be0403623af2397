/- LoopHeld: whatever offsets come, the frequency stays within what it may be, and nothing but an offset that nobody believes is refused. Bound of DOC.md. -/
import Derived.Test.YtlidlmgmijndcaaGreatLpO
import Derived.Test.YtlidlmgmijndcaaGreatQtE
import Derived.Deep.RegionHeld3
import Derived.BigQuiet
import Derived.WalkKit
import Derived.WalkSpells
import Derived.WalkLawsBesides
import Derived.Lib.Hide
import Derived.Handy
import Derived.ProofKit
import Derived.OpenShut
import Derived.ShutString
import Derived.ChangeOld
import Derived.Below
namespace Go.Proofs.YtlidlmgmijndcaaGreat.LoopHeld
open Go.Proofs.YtlidlmgmijndcaaGreat.W
open Go.ChangeShapes Go.WideShapes Go.ChangeAt Go.RowKit
open Go.ChangeMaps (open_string shut_string)
set_option linter.unusedVariables false
theorem own : ownKnob Tryz.prog.godebug = none := by kernel_rfl
theorem laidOut : laidOutB Tryz.prog = true := by kernel_rfl
open Go.Sort
set_option linter.unusedSimpArgs false
abbrev pmR (p : Pm) : Array Value := #[.int .i64 p.step, .int .i64 p.watch, .int .i64 p.panic, .int .i64 p.maxrate, .int .i64 p.phi, .int .i64 p.maxdist, .int .i64 p.gate, .int .i64 p.minpoll, .int .i64 p.maxpoll, .int .i64 p.burst, .int .i64 p.minsane, .int .i64 p.minleft]
abbrev dcR (d : Dc) : Array Value := #[.int .i64 d.st, .int .i64 d.at_, .int .i64 d.off, .int .i64 d.freq, .int .i64 d.jit, .int .i64 d.wan, .int .i64 d.rest]
theorem pm_in {w : World} {b : Nat} {p : Pm} {t : TypeId} (h : w.heap[b]? = some (.cells (pmR p) t (0, 0))) :
    w.cell? ⟨b, 0, none⟩ = some (.int .i64 p.step) ∧ w.cell? ⟨b, 1, none⟩ = some (.int .i64 p.watch) ∧ w.cell? ⟨b, 2, none⟩ = some (.int .i64 p.panic) ∧ w.cell? ⟨b, 3, none⟩ = some (.int .i64 p.maxrate) ∧ w.cell? ⟨b, 4, none⟩ = some (.int .i64 p.phi) ∧ w.cell? ⟨b, 5, none⟩ = some (.int .i64 p.maxdist) ∧ w.cell? ⟨b, 6, none⟩ = some (.int .i64 p.gate) ∧ w.cell? ⟨b, 7, none⟩ = some (.int .i64 p.minpoll) ∧ w.cell? ⟨b, 8, none⟩ = some (.int .i64 p.maxpoll) ∧ w.cell? ⟨b, 9, none⟩ = some (.int .i64 p.burst) ∧ w.cell? ⟨b, 10, none⟩ = some (.int .i64 p.minsane) ∧ w.cell? ⟨b, 11, none⟩ = some (.int .i64 p.minleft) := by
  refine ⟨?_, ?_, ?_, ?_, ?_, ?_, ?_, ?_, ?_, ?_, ?_, ?_⟩ <;> simp [World.cell?, h]
theorem off_at {w wr : World} {x : Option Addr} {c : Nat} {l : List Of} {q : Nat} (h : SlAt (fun b => b < w.heap.size) 2 oferE w (.slice x l.length c) l) (hB : Below w.heap.size w wr) {o : Of} (hq : l[q]? = some o) :
    ∃ b off, x = some ⟨b, off, none⟩ ∧ wr.cell? ⟨b, off + q * 2, none⟩ = some (.int .i64 o.off) ∧ wr.cell? ⟨b, off + q * 2 + 1, none⟩ = some (.int .u16 o.gap) := by
  rcases h with ⟨_, _, _, _, rfl⟩ | ⟨b, off, cap, hv, hb, hc⟩
  · simp at hq
  · obtain ⟨rfl, _⟩ := Value.slice.inj hv
    obtain ⟨h0, h1⟩ := of_at (w := wr) (b := b) (q := off + q * 2) (s := o) (fun j u hu => by rw [hB.cell hb]; exact hc q o hq j u hu)
    exact ⟨b, off, rfl, h0, h1⟩
set_option maxRecDepth 100000 in
set_option maxHeartbeats 25600000 in
theorem walk (v : Value) (l : List Of) (f : Int) (known : Bool) (poll : Int) (w : World) (hv : SlAt (fun b => b < w.heap.size) 2 oferE w v l) (tl : ∀ o ∈ l, o.Typed) (hl : l.length ≤ maxLen) (wf : (Lit.int .i64 f).wf = true) (wp : (Lit.int .u8 poll).wf = true) :
    Calls Tryz.prog 4 #[v, .int .i64 f, .bool known, .int .u8 poll] w fun e w' => e = .returned (.bool true) ∧ Below w.heap.size w w' := by
  have f0 := bounds_i64 wf
  have p0 := u8_bounds wp
  clear wf wp hl
  obtain ⟨a, ca, rfl⟩ := hv.slice
  have cs := shown19_any
  by_cases g1 : 300 < l.length
  · have i1 : (300 : Int) < l.length := by omega
    clear hv
    go_enter Tryz.func4, Tryz.ntmps4
    go_wp2_with fail
    (with_reducible refine (cs _).mono ?_)
    rintro e w1 ⟨rfl, B1⟩
    go_wp2_with fail
    go_ret
    exact ⟨rfl, B1⟩
  have i1 : ¬ (300 : Int) < l.length := by omega
  have HV := Lib.hid (And.intro hv tl)
  have c1 := std19_any
  have TP := std_params.typed
  have HL := std_loop
  generalize chkP stdC = p at *
  have c2 := lpstart_any p TP (by have := HL.maxrate; omega) f f0 known
  have hS := start_ok HL f known
  generalize startL p f known = d0 at *
  have hw1 : IntKind.i64.wrap poll = poll := by rw [IntKind.wrap_i64]; omega
  unfold Pm.val at c1 c2
  unfold Dc.val at c2
  clear hv tl
  go_enter Tryz.func4, Tryz.ntmps4
  go_wp2_with fail
  (with_reducible refine (cs _).mono ?_)
  rintro e w1 ⟨rfl, B1⟩
  go_wp2_with fail
  (with_reducible refine (c1 _).mono ?_)
  rintro e w2 ⟨rfl, g2⟩
  have B2 := B1.trans (g2.mono B1.size)
  have wlt := B2.size
  have x3 := heap_alloc_new w2 (.cells (pmR p) 25)
  have B3 := B2.alloc B2.size (.cells (pmR p) 25)
  have z3 := World.size_alloc w2 (.cells (pmR p) 25)
  have H3 := Lib.hid (And.intro x3 (And.intro B3 z3))
  clear B1 g2 B2 x3 B3 z3
  go_upto_region 4 with fail
  generalize w2.alloc (.cells (pmR p) 25) = w3 at *
  obtain ⟨n0, n1, n2, n3, n4, n5, n6, n7, n8, n9, n10, n11⟩ := pm_in H3.out.1
  go_wp2_with fail
  (with_reducible refine (c2 _).mono ?_)
  rintro e w4 ⟨rfl, g4⟩
  obtain ⟨x3, B3, z3⟩ := H3.out
  have B4 := B3.trans (g4.mono B3.size)
  have x4 := kept x3 g4
  have x5 := laid (.cells (dcR d0) 28) x4
  have y5 := heap_alloc_new w4 (.cells (dcR d0) 28)
  have B5 := B4.alloc B4.size (.cells (dcR d0) 28)
  have l45 : w2.heap.size < w4.heap.size := by have := g4.size; omega
  clear n0 n1 n2 n3 n4 n5 n6 n7 n8 n9 n10 n11 x3 B3 z3 g4 B4 x4 c2 H3
  go_upto_region 5 with fail
  generalize w4.alloc (.cells (dcR d0) 28) = w5 at *
  generalize w4.heap.size = bd at *
  generalize w2.heap.size = bp at *
  go_wp2_with fail
  go_loopw [11, 12] (fun nw i wr => ∃ (q : Nat) (T : Int) (d : Dc), q ≤ l.length ∧ i = .int .i64 (q : Int) ∧ nw = .int .i64 T ∧ 0 ≤ T ∧ T ≤ (q : Int) * 281470681743360 ∧ OkD p d ∧ wr.heap[bp]? = some (.cells (pmR p) 25 (0, 0)) ∧ wr.heap[bd]? = some (.cells (dcR d) 28 (0, 0)) ∧ Below w.heap.size w wr) (fun _ i _ => l.length - (intOf i).toNat)
  case atStart => exact ⟨0, 0, d0, Nat.zero_le _, rfl, rfl, by omega, by omega, hS, x5, y5, B5⟩
  case round =>
    obtain ⟨q, T, d, hq, rfl, rfl, T0, T1, hd, hp, hdd, hB⟩ := hrel
    clear x5 y5 B5 hS
    by_cases hlt : q < l.length
    · have i2 : (q : Int) < l.length := by omega
      have i0 : (0 : Int) ≤ (q : Int) := by omega
      obtain ⟨o, ho⟩ : ∃ o, l[q]? = some o := ⟨_, List.getElem?_eq_getElem hlt⟩
      have ot := HV.out.2 o (List.mem_of_getElem? ho)
      obtain ⟨b, off, rfl, k0, k1⟩ := off_at HV.out.1 hB ho
      obtain ⟨og, hog⟩ := ot
      generalize o.off = oo at *
      generalize o.gap = gp at *
      have e1 : IntKind.i64.wrap gp = gp := by rw [IntKind.wrap_i64]; omega
      have e2 : IntKind.i64.wrap (gp * 4294967296) = gp * 4294967296 := by rw [IntKind.wrap_i64]; omega
      obtain ⟨T', hT'⟩ : ∃ T', T + gp * 4294967296 = T' := ⟨_, rfl⟩
      have e3 : IntKind.i64.wrap (T + gp * 4294967296) = T' := by rw [hT', IntKind.wrap_i64]; omega
      have T2 : 0 ≤ T' ∧ T' ≤ ((q + 1 : Nat) : Int) * 281470681743360 := by omega
      have TR : -9223372036854775808 ≤ T' ∧ T' ≤ 9223372036854775807 := by omega
      have cU := fun W => lpupd_any p TP (by have := HL.maxrate; omega) d hd.t oo T' poll og TR (by omega) W
      obtain ⟨hU, hcase⟩ := upd_ok (n := poll) HL hd og TR
      generalize updL p d oo T' poll = U at *
      unfold Pm.val Dc.val at cU
      obtain ⟨n0, n1, n2, n3, n4, n5, n6, n7, n8, n9, n10, n11⟩ := pm_in hp
      obtain ⟨s0, s1, s2, s3, s4, s5, s6⟩ := seven_in19 hdd
      have r0 := cell_regrown n0
      have r1 := cell_regrown n1
      have r2 := cell_regrown n2
      have r3 := cell_regrown n3
      have r4 := cell_regrown n4
      have r5 := cell_regrown n5
      have r6 := cell_regrown n6
      have r7 := cell_regrown n7
      have r8 := cell_regrown n8
      have r9 := cell_regrown n9
      have r10 := cell_regrown n10
      have r11 := cell_regrown n11
      have t0 := cell_regrown s0
      have t1 := cell_regrown s1
      have t2 := cell_regrown s2
      have t3 := cell_regrown s3
      have t4 := cell_regrown s4
      have t5 := cell_regrown s5
      have t6 := cell_regrown s6
      have u0 := cell_regrown k0
      have HH := Lib.hid (And.intro hp (And.intro hdd (And.intro hB (And.intro k0 (And.intro T2 (And.intro hd (And.intro hU hcase)))))))
      clear hp hdd hB hd hU hcase T0 T1 T2 TR hT' ho og hog n0 n1 n2 n3 n4 n5 n6 n7 n8 n9 n10 n11 s0 s1 s2 s3 s4 s5 s6
      go_upto_region 10 with fail
      clear k0 k1 e1 e2 e3
      refine wp_region_noPanic ?_
      refine wp_region_grow 20 4 [0, 1, 2, 3, 4, 5, 6, 7, 8, 9, 10, 11, 12, 13, 14, 15] (by kernel_rfl) (by kernel_rfl) (fun _ _ _ _ _ h => h) (fun sh => ?_)
      simp only [List.filterMap_cons, List.filterMap_nil, List.getElem?_toArray, List.getElem?_cons_succ, List.getElem?_cons_zero]
      repeat (refine wpG_step (fun K hK => ?_); go_simp; first | (refine hK _ ?_; clear hK K) | (apply Exists.intro; refine ⟨fun _ => ?_, hK _ ?_⟩; (exact cU _); clear hK K))
      refine wpG_nil ?_
      intro v0 hv0 iv
      have q0 := heap_alloc_new v0 (.cells #[.int .i64 0, .int .i64 0, .int .i64 0, .int .i64 0, .int .i64 0, .int .i64 0, .int .i64 0] 28)
      have lb := hv0.size
      have B0 := hv0.alloc hv0.size (.cells #[.int .i64 0, .int .i64 0, .int .i64 0, .int .i64 0, .int .i64 0, .int .i64 0, .int .i64 0] 28)
      refine headG_one (i := 16) (by kernel_rfl) (OneG.step rfl (fun K hK => ?_))
      go_simp
      refine hK _ _ (regrown_of_below B0) ?_
      clear hK K
      intro v1 hv1
      have nb := kept q0 hv1
      have B1 := B0.trans (hv1.mono B0.size)
      generalize v0.heap.size = bx at nb lb ⊢
      clear q0 B0
      have th := thaw19 nb
      obtain ⟨y0, y1, y2, y3, y4, y5, y6⟩ := seven_in19 nb
      have th0 := th 0
      have th1 := th 1
      have th2 := th 2
      have th3 := th 3
      have th4 := th 4
      have th5 := th 5
      have th6 := th 6
      have C1 := seven_new19 (.int .i64 U.d.st) (.int .i64 U.d.at_) (.int .i64 U.d.off) (.int .i64 U.d.freq) (.int .i64 U.d.jit) (.int .i64 U.d.wan) (.int .i64 U.d.rest) nb
      have C2 := seven_below19 (.int .i64 U.d.st) (.int .i64 U.d.at_) (.int .i64 U.d.off) (.int .i64 U.d.freq) (.int .i64 U.d.jit) (.int .i64 U.d.wan) (.int .i64 U.d.rest) B1 lb
      refine headG_one (i := 17) (by kernel_rfl) (OneG.step rfl (fun K hK => ?_))
      go_simp
      refine hK _ _ (regrown_of_below C2) ?_
      clear hK K y0 y1 y2 y3 y4 y5 y6 th th0 th1 th2 th3 th4 th5 th6
      intro v2 hv2
      have hx := kept C1 hv2
      have B2 := C2.trans (hv2.mono C2.size)
      clear C1 C2 nb B1
      refine headG_takes (g := 0) sh [18, 19] _ _ _ (inv_ok [16, 17] _ iv (by kernel_rfl)) (by kernel_rfl) (regrown_of_below B2) ?_
      simp only [List.filterMap_cons, List.filterMap_nil, List.getElem?_toArray, List.getElem?_cons_succ, List.getElem?_cons_zero]
      repeat (refine wpG_step (fun K hK => ?_); go_simp; first | (refine hK _ ?_; clear hK K) | (apply Exists.intro; refine ⟨fun _ => ?_, hK _ ?_⟩; (fail); clear hK K))
      refine wpG_nil ?_
      intro v3 hv3
      refine ⟨by kernel_rfl, ?_⟩
      simp only [List.drop_succ_cons, List.drop_zero]
      go_wp2_with fail
      refine NoPanic.normal ?_
      have B3 := B2.trans (hv3.mono B2.size)
      have hx3 := kept hx hv3
      obtain ⟨hp, hdd, hB, k0, T2, hd, hU, hcase⟩ := HH.out
      have lbd := (Array.getElem?_eq_some_iff.1 hdd).1
      have lbp := (Array.getElem?_eq_some_iff.1 hp).1
      have hp3 := kept hp B3
      have hd3 := kept hdd B3
      have k3 := (B3.cell (block_lt_of_cell k0)).trans k0
      have HB3 := hB.trans (B3.mono hB.size)
      have hle := hB.size
      clear hp hdd hB k0 B2 B3 hx hv2 hv3 r0 r1 r2 r3 r4 r5 r6 r7 r8 r9 r10 r11 t0 t1 t2 t3 t4 t5 t6 u0 cU hv0 hv1 iv sh HH
      have nbp : bp ≠ bd := by omega
      have nbx : bx ≠ bd := by omega
      have wbd : w.heap.size ≤ bd := by omega
      have hpn := HL.panic
      have hmr := HL.maxrate
      have e4 : IntKind.i64.wrap (-p.panic) = -p.panic := by rw [IntKind.wrap_i64]; omega
      have e5 : IntKind.i64.wrap (-p.maxrate) = -p.maxrate := by rw [IntKind.wrap_i64]; omega
      obtain ⟨uf0, uf1⟩ := hU.freq
      have uj := hU.jit
      have uw := hU.wan
      obtain ⟨us0, us1⟩ := hU.st
      have g1 : decide (p.maxrate < U.d.freq) = false := decide_eq_false (by omega)
      have g2 : decide (U.d.freq < -p.maxrate) = false := decide_eq_false (by omega)
      have g3 : decide (U.d.jit < 0) = false := decide_eq_false (by omega)
      have g4 : decide (U.d.wan < 0) = false := decide_eq_false (by omega)
      have g5 : decide (U.d.st < 0) = false := decide_eq_false (by omega)
      have g6 : decide (4 < U.d.st) = false := decide_eq_false (by omega)
      have E := Lib.hid (And.intro hU (And.intro T2 (And.intro hp3 (And.intro hd3 HB3))))
      have ds := hd.st
      obtain ⟨n0, n1, n2, n3, n4, n5, n6, n7, n8, n9, n10, n11⟩ := pm_in hp3
      obtain ⟨s0, s1, s2, s3, s4, s5, s6⟩ := seven_in19 hd3
      have th := thaw19 hd3
      have th0 := th 0
      have th1 := th 1
      have th2 := th 2
      have th3 := th 3
      have th4 := th 4
      have th5 := th 5
      have th6 := th 6
      obtain ⟨x0, x1, x2, x3, x4, x5, x6⟩ := seven_in19 hx3
      clear th hp3 hd3 HB3 hU T2 hd uf0 uf1 uj uw us0 us1 hle lb lbd lbp
      have key : ((d.st != 0) = true ∧ ((decide (p.panic < oo) = true) ∨ (decide (p.panic < oo) = false ∧ decide (oo < -p.panic) = true)) ∧ U = ⟨d, 0, 0, 190⟩) ∨ ((d.st != 0) = false ∧ U.e = 0) ∨ ((d.st != 0) = true ∧ decide (p.panic < oo) = false ∧ decide (oo < -p.panic) = false ∧ U.e = 0) := by
        rcases hcase with ⟨⟨hs, hA⟩, hu⟩ | ⟨hn, he⟩
        · refine .inl ⟨by simpa using hs, ?_, hu⟩
          by_cases h : p.panic < oo
          · exact .inl (decide_eq_true h)
          · exact .inr ⟨decide_eq_false h, decide_eq_true (by omega)⟩
        · by_cases h : d.st = 0
          · exact .inr (.inl ⟨by simp [h], he⟩)
          · exact .inr (.inr ⟨by simpa using h, decide_eq_false (fun h' => hn ⟨h, .inl h'⟩), decide_eq_false (fun h' => hn ⟨h, .inr h'⟩), he⟩)
      clear hcase hpn hmr ds
      rcases key with ⟨a1, a2, hu⟩ | ⟨a1, he⟩ | ⟨a1, a2, a3, he⟩
      · have hud : U.d = d := by rw [hu]
        have hue : U.e = 190 := by rw [hu]
        clear hu
        have hne := fun W => dc_ne d W
        unfold Dc.val at hne
        rcases a2 with a2 | ⟨a2, a3⟩
        · skip
          rw [hue]
          simp only [hud] at x0 x1 x2 x3 x4 x5 x6
          clear hud hue
          go_wp2_with fail
          go_quiet (fail)
          go_upto_region 14 with fail
          obtain ⟨hU, T2, hp3, hd3, HB3⟩ := E.out
          have hb8 := below_drewN HB3 nq
          have hp8 : (v3.drewN nq).heap[bp]? = _ := hp3
          have hd8 : (v3.drewN nq).heap[bd]? = _ := hd3
          have hx8 : (v3.drewN nq).heap[bx]? = _ := hx3
          clear s0 s1 s2 s3 s4 s5 s6 th0 th1 th2 th3 th4 th5 th6 x0 x1 x2 x3 x4 x5 x6 n0 n1 n2 n3 n4 n5 n6 n7 n8 n9 n10 n11 hp3 hd3 HB3 hx3 k3
          generalize v3.drewN nq = w8 at *
          obtain ⟨s0, s1, s2, s3, s4, s5, s6⟩ := seven_in19 hd8
          have th := thaw19 hd8
          have th0 := th 0
          have th1 := th 1
          have th2 := th 2
          have th3 := th 3
          have th4 := th 4
          have th5 := th 5
          have th6 := th 6
          obtain ⟨x0, x1, x2, x3, x4, x5, x6⟩ := seven_in19 hx8
          have hq := seven_new19 (.int .i64 U.d.st) (.int .i64 U.d.at_) (.int .i64 U.d.off) (.int .i64 U.d.freq) (.int .i64 U.d.jit) (.int .i64 U.d.wan) (.int .i64 U.d.rest) hd8
          have hb := seven_below19 (.int .i64 U.d.st) (.int .i64 U.d.at_) (.int .i64 U.d.off) (.int .i64 U.d.freq) (.int .i64 U.d.jit) (.int .i64 U.d.wan) (.int .i64 U.d.rest) hb8 wbd
          have hr := (seven_far19 (.int .i64 U.d.st) (.int .i64 U.d.at_) (.int .i64 U.d.off) (.int .i64 U.d.freq) (.int .i64 U.d.jit) (.int .i64 U.d.wan) (.int .i64 U.d.rest) nbp).trans hp8
          have K8 := Lib.hid (And.intro hU (And.intro T2 (And.intro hr (And.intro hq hb))))
          clear th hU T2 hp8 hd8 hb8 hx8 E hr hq hb
          go_upto_region 15 with fail
          obtain ⟨hU, T2, hr, hq, hb⟩ := K8.out
          clear s0 s1 s2 s3 s4 s5 s6 th0 th1 th2 th3 th4 th5 th6 x0 x1 x2 x3 x4 x5 x6 K8
          generalize ((((((w8.setCell ⟨bd, 0, none⟩ (.int .i64 U.d.st)).setCell ⟨bd, 1, none⟩ (.int .i64 U.d.at_)).setCell ⟨bd, 2, none⟩ (.int .i64 U.d.off)).setCell ⟨bd, 3, none⟩ (.int .i64 U.d.freq)).setCell ⟨bd, 4, none⟩ (.int .i64 U.d.jit)).setCell ⟨bd, 5, none⟩ (.int .i64 U.d.wan)).setCell ⟨bd, 6, none⟩ (.int .i64 U.d.rest) = w9 at *
          obtain ⟨n0, n1, n2, n3, n4, n5, n6, n7, n8, n9, n10, n11⟩ := pm_in hr
          obtain ⟨s0, s1, s2, s3, s4, s5, s6⟩ := seven_in19 hq
          have Z := Lib.hid (And.intro hU (And.intro T2 (And.intro hr (And.intro hq hb))))
          clear hU T2 hr hq hb
          go_wp2_with fail
          go_roundw
          case rel =>
            obtain ⟨hU, T2, hr, hq, hb⟩ := Z.out
            exact ⟨q + 1, T', U.d, by omega, by go_num, rfl, T2.1, T2.2, hU, hr, hq, hb⟩
          case measure => simp [intOf]; omega
        · skip
          rw [hue]
          simp only [hud] at x0 x1 x2 x3 x4 x5 x6
          clear hud hue
          go_wp2_with fail
          go_quiet (fail)
          go_upto_region 14 with fail
          obtain ⟨hU, T2, hp3, hd3, HB3⟩ := E.out
          have hb8 := below_drewN HB3 nq
          have hp8 : (v3.drewN nq).heap[bp]? = _ := hp3
          have hd8 : (v3.drewN nq).heap[bd]? = _ := hd3
          have hx8 : (v3.drewN nq).heap[bx]? = _ := hx3
          clear s0 s1 s2 s3 s4 s5 s6 th0 th1 th2 th3 th4 th5 th6 x0 x1 x2 x3 x4 x5 x6 n0 n1 n2 n3 n4 n5 n6 n7 n8 n9 n10 n11 hp3 hd3 HB3 hx3 k3
          generalize v3.drewN nq = w8 at *
          obtain ⟨s0, s1, s2, s3, s4, s5, s6⟩ := seven_in19 hd8
          have th := thaw19 hd8
          have th0 := th 0
          have th1 := th 1
          have th2 := th 2
          have th3 := th 3
          have th4 := th 4
          have th5 := th 5
          have th6 := th 6
          obtain ⟨x0, x1, x2, x3, x4, x5, x6⟩ := seven_in19 hx8
          have hq := seven_new19 (.int .i64 U.d.st) (.int .i64 U.d.at_) (.int .i64 U.d.off) (.int .i64 U.d.freq) (.int .i64 U.d.jit) (.int .i64 U.d.wan) (.int .i64 U.d.rest) hd8
          have hb := seven_below19 (.int .i64 U.d.st) (.int .i64 U.d.at_) (.int .i64 U.d.off) (.int .i64 U.d.freq) (.int .i64 U.d.jit) (.int .i64 U.d.wan) (.int .i64 U.d.rest) hb8 wbd
          have hr := (seven_far19 (.int .i64 U.d.st) (.int .i64 U.d.at_) (.int .i64 U.d.off) (.int .i64 U.d.freq) (.int .i64 U.d.jit) (.int .i64 U.d.wan) (.int .i64 U.d.rest) nbp).trans hp8
          have K8 := Lib.hid (And.intro hU (And.intro T2 (And.intro hr (And.intro hq hb))))
          clear th hU T2 hp8 hd8 hb8 hx8 E hr hq hb
          go_upto_region 15 with fail
          obtain ⟨hU, T2, hr, hq, hb⟩ := K8.out
          clear s0 s1 s2 s3 s4 s5 s6 th0 th1 th2 th3 th4 th5 th6 x0 x1 x2 x3 x4 x5 x6 K8
          generalize ((((((w8.setCell ⟨bd, 0, none⟩ (.int .i64 U.d.st)).setCell ⟨bd, 1, none⟩ (.int .i64 U.d.at_)).setCell ⟨bd, 2, none⟩ (.int .i64 U.d.off)).setCell ⟨bd, 3, none⟩ (.int .i64 U.d.freq)).setCell ⟨bd, 4, none⟩ (.int .i64 U.d.jit)).setCell ⟨bd, 5, none⟩ (.int .i64 U.d.wan)).setCell ⟨bd, 6, none⟩ (.int .i64 U.d.rest) = w9 at *
          obtain ⟨n0, n1, n2, n3, n4, n5, n6, n7, n8, n9, n10, n11⟩ := pm_in hr
          obtain ⟨s0, s1, s2, s3, s4, s5, s6⟩ := seven_in19 hq
          have Z := Lib.hid (And.intro hU (And.intro T2 (And.intro hr (And.intro hq hb))))
          clear hU T2 hr hq hb
          go_wp2_with fail
          go_roundw
          case rel =>
            obtain ⟨hU, T2, hr, hq, hb⟩ := Z.out
            exact ⟨q + 1, T', U.d, by omega, by go_num, rfl, T2.1, T2.2, hU, hr, hq, hb⟩
          case measure => simp [intOf]; omega
      · skip
        rw [he]
        go_wp2_with fail
        go_quiet (fail)
        go_upto_region 14 with fail
        obtain ⟨hU, T2, hp3, hd3, HB3⟩ := E.out
        have hb8 := below_drewN HB3 nq
        have hp8 : (v3.drewN nq).heap[bp]? = _ := hp3
        have hd8 : (v3.drewN nq).heap[bd]? = _ := hd3
        have hx8 : (v3.drewN nq).heap[bx]? = _ := hx3
        clear s0 s1 s2 s3 s4 s5 s6 th0 th1 th2 th3 th4 th5 th6 x0 x1 x2 x3 x4 x5 x6 n0 n1 n2 n3 n4 n5 n6 n7 n8 n9 n10 n11 hp3 hd3 HB3 hx3 k3
        generalize v3.drewN nq = w8 at *
        obtain ⟨s0, s1, s2, s3, s4, s5, s6⟩ := seven_in19 hd8
        have th := thaw19 hd8
        have th0 := th 0
        have th1 := th 1
        have th2 := th 2
        have th3 := th 3
        have th4 := th 4
        have th5 := th 5
        have th6 := th 6
        obtain ⟨x0, x1, x2, x3, x4, x5, x6⟩ := seven_in19 hx8
        have hq := seven_new19 (.int .i64 U.d.st) (.int .i64 U.d.at_) (.int .i64 U.d.off) (.int .i64 U.d.freq) (.int .i64 U.d.jit) (.int .i64 U.d.wan) (.int .i64 U.d.rest) hd8
        have hb := seven_below19 (.int .i64 U.d.st) (.int .i64 U.d.at_) (.int .i64 U.d.off) (.int .i64 U.d.freq) (.int .i64 U.d.jit) (.int .i64 U.d.wan) (.int .i64 U.d.rest) hb8 wbd
        have hr := (seven_far19 (.int .i64 U.d.st) (.int .i64 U.d.at_) (.int .i64 U.d.off) (.int .i64 U.d.freq) (.int .i64 U.d.jit) (.int .i64 U.d.wan) (.int .i64 U.d.rest) nbp).trans hp8
        have K8 := Lib.hid (And.intro hU (And.intro T2 (And.intro hr (And.intro hq hb))))
        clear th hU T2 hp8 hd8 hb8 hx8 E hr hq hb
        go_upto_region 15 with fail
        obtain ⟨hU, T2, hr, hq, hb⟩ := K8.out
        clear s0 s1 s2 s3 s4 s5 s6 th0 th1 th2 th3 th4 th5 th6 x0 x1 x2 x3 x4 x5 x6 K8
        generalize ((((((w8.setCell ⟨bd, 0, none⟩ (.int .i64 U.d.st)).setCell ⟨bd, 1, none⟩ (.int .i64 U.d.at_)).setCell ⟨bd, 2, none⟩ (.int .i64 U.d.off)).setCell ⟨bd, 3, none⟩ (.int .i64 U.d.freq)).setCell ⟨bd, 4, none⟩ (.int .i64 U.d.jit)).setCell ⟨bd, 5, none⟩ (.int .i64 U.d.wan)).setCell ⟨bd, 6, none⟩ (.int .i64 U.d.rest) = w9 at *
        obtain ⟨n0, n1, n2, n3, n4, n5, n6, n7, n8, n9, n10, n11⟩ := pm_in hr
        obtain ⟨s0, s1, s2, s3, s4, s5, s6⟩ := seven_in19 hq
        have Z := Lib.hid (And.intro hU (And.intro T2 (And.intro hr (And.intro hq hb))))
        clear hU T2 hr hq hb
        go_wp2_with fail
        go_roundw
        case rel =>
          obtain ⟨hU, T2, hr, hq, hb⟩ := Z.out
          exact ⟨q + 1, T', U.d, by omega, by go_num, rfl, T2.1, T2.2, hU, hr, hq, hb⟩
        case measure => simp [intOf]; omega
      · skip
        rw [he]
        go_wp2_with fail
        go_quiet (fail)
        go_upto_region 14 with fail
        obtain ⟨hU, T2, hp3, hd3, HB3⟩ := E.out
        have hb8 := below_drewN HB3 nq
        have hp8 : (v3.drewN nq).heap[bp]? = _ := hp3
        have hd8 : (v3.drewN nq).heap[bd]? = _ := hd3
        have hx8 : (v3.drewN nq).heap[bx]? = _ := hx3
        clear s0 s1 s2 s3 s4 s5 s6 th0 th1 th2 th3 th4 th5 th6 x0 x1 x2 x3 x4 x5 x6 n0 n1 n2 n3 n4 n5 n6 n7 n8 n9 n10 n11 hp3 hd3 HB3 hx3 k3
        generalize v3.drewN nq = w8 at *
        obtain ⟨s0, s1, s2, s3, s4, s5, s6⟩ := seven_in19 hd8
        have th := thaw19 hd8
        have th0 := th 0
        have th1 := th 1
        have th2 := th 2
        have th3 := th 3
        have th4 := th 4
        have th5 := th 5
        have th6 := th 6
        obtain ⟨x0, x1, x2, x3, x4, x5, x6⟩ := seven_in19 hx8
        have hq := seven_new19 (.int .i64 U.d.st) (.int .i64 U.d.at_) (.int .i64 U.d.off) (.int .i64 U.d.freq) (.int .i64 U.d.jit) (.int .i64 U.d.wan) (.int .i64 U.d.rest) hd8
        have hb := seven_below19 (.int .i64 U.d.st) (.int .i64 U.d.at_) (.int .i64 U.d.off) (.int .i64 U.d.freq) (.int .i64 U.d.jit) (.int .i64 U.d.wan) (.int .i64 U.d.rest) hb8 wbd
        have hr := (seven_far19 (.int .i64 U.d.st) (.int .i64 U.d.at_) (.int .i64 U.d.off) (.int .i64 U.d.freq) (.int .i64 U.d.jit) (.int .i64 U.d.wan) (.int .i64 U.d.rest) nbp).trans hp8
        have K8 := Lib.hid (And.intro hU (And.intro T2 (And.intro hr (And.intro hq hb))))
        clear th hU T2 hp8 hd8 hb8 hx8 E hr hq hb
        go_upto_region 15 with fail
        obtain ⟨hU, T2, hr, hq, hb⟩ := K8.out
        clear s0 s1 s2 s3 s4 s5 s6 th0 th1 th2 th3 th4 th5 th6 x0 x1 x2 x3 x4 x5 x6 K8
        generalize ((((((w8.setCell ⟨bd, 0, none⟩ (.int .i64 U.d.st)).setCell ⟨bd, 1, none⟩ (.int .i64 U.d.at_)).setCell ⟨bd, 2, none⟩ (.int .i64 U.d.off)).setCell ⟨bd, 3, none⟩ (.int .i64 U.d.freq)).setCell ⟨bd, 4, none⟩ (.int .i64 U.d.jit)).setCell ⟨bd, 5, none⟩ (.int .i64 U.d.wan)).setCell ⟨bd, 6, none⟩ (.int .i64 U.d.rest) = w9 at *
        obtain ⟨n0, n1, n2, n3, n4, n5, n6, n7, n8, n9, n10, n11⟩ := pm_in hr
        obtain ⟨s0, s1, s2, s3, s4, s5, s6⟩ := seven_in19 hq
        have Z := Lib.hid (And.intro hU (And.intro T2 (And.intro hr (And.intro hq hb))))
        clear hU T2 hr hq hb
        go_wp2_with fail
        go_roundw
        case rel =>
          obtain ⟨hU, T2, hr, hq, hb⟩ := Z.out
          exact ⟨q + 1, T', U.d, by omega, by go_num, rfl, T2.1, T2.2, hU, hr, hq, hb⟩
        case measure => simp [intOf]; omega
    · have eq : q = l.length := by omega
      subst eq
      have i3 : ¬ (l.length : Int) < (l.length : Int) := by omega
      have BB := Lib.hid hB
      clear hp hdd hB hd
      go_wp2_with fail
      go_ret
      exact ⟨rfl, BB.out⟩
set_option maxRecDepth 100000 in
theorem lifted (os : Os) (started : os.Started) (H : Type) (enc : TypeId × Value → H) :
    ReturnsInHanded {} Tryz.checked os 4 .any (Rows.loopHeldSpec.pre6 enc Tryz.prog Tryz.f4 Rows.loopHeldRow.domain false) (Rows.loopHeldSpec.post enc Tryz.prog Tryz.f4 false true false false) := by
  refine returnsInHanded_of_change (C := Tryz.checked) own started (by kernel_rfl) Tryz.func4
    (ChangeSpec.witness6 (enc := enc) (C := Tryz.checked) false ⟨#[], #[.slice none 0 0, .int .i64 0, .bool false, .int .u8 0], []⟩ 8 (by kernel_rfl) (by kernel_rfl) (by kernel_rfl) (by kernel_rfl)) ?_
  intro W base args ds gs before hval0 hW hcnd _
  have hval : ∀ (j : Nat) t v, Tryz.f4.params[j]? = some t → args[j]? = some v → Value.okWide Tryz.prog W .any base t v := hval0
  have hW' := hW
  obtain ⟨p, q, hA0, hV, rfl, hfz, hnd⟩ := hW
  have hA : DataW.TrodAll enc Tryz.prog W 0 (fun _ => true) true Tryz.f4.params.toList args.toList ds p := hA0
  rw [Tryz.params4] at hA hval
  obtain ⟨v0, vs0, d0, ds0, p0, q0, hargs, rfl, rfl, h0, r0⟩ := trodAll_cons hA
  obtain ⟨v1, vs1, d1, ds1, p1, q1, rfl, rfl, rfl, h1, r1⟩ := trodAll_cons r0
  obtain ⟨v2, vs2, d2, ds2, p2, q2, rfl, rfl, rfl, h2, r2⟩ := trodAll_cons r1
  obtain ⟨v3, vs3, d3, ds3, p3, q3, rfl, rfl, rfl, h3, r3⟩ := trodAll_cons r2
  obtain ⟨rfl, rfl, rfl⟩ := trodAll_nil r3
  obtain rfl : args = #[v0, v1, v2, v3] := by cases args; simp_all
  obtain ⟨rfl, rfl⟩ := trodVars_none hV
  have k0 := h0
  have lt0 : ∀ x ∈ p0, x.block < W.heap.size := by obtain ⟨m, hm⟩ := k0; exact DataW.trod_lt m _ _ _ hm
  obtain ⟨a0, len0, cap0, rfl⟩ := okWide_slice Tryz.underlying22 (hval 0 22 v0 rfl rfl)
  obtain ⟨z0, w0a, w0b, w0c⟩ : ∃ l : List Of, SlAt (fun b => b < W.heap.size) 2 oferE W (.slice a0 len0 cap0) l ∧ (∀ f ∈ l, Of.Typed f) ∧ l.length ≤ maxLen := by
    obtain ⟨fuel, hf⟩ := h0
    obtain ⟨v, l, hcs, h1, h2, h3⟩ := open_ofs hf
    simp [Value.cells] at hcs
    subst hcs
    exact ⟨l, h1, h2, h3⟩
  obtain ⟨a1, rfl, rfl, rfl, w1⟩ := open_int Tryz.underlying2 (hval 1 2 v1 rfl rfl) h1
  obtain ⟨a2, rfl, rfl, rfl⟩ := open_bool Tryz.underlying4 (hval 2 4 v2 rfl rfl) h2
  obtain ⟨a3, rfl, rfl, rfl, w3⟩ := open_int Tryz.underlying5 (hval 3 5 v3 rfl rfl) h3
  clear hA0 hval0
  refine (walk (.slice a0 len0 cap0) z0 a1 a2 a3 W w0a w0b w0c w1 w3).mono fun e W' ⟨he, bel⟩ => ?_
  subst he
  exact ⟨_, rfl, _, _, _, [], _, [], hW', trodAll_mk1 (shut_bool Tryz.underlying4 _), (trodAll_cons_mk (Below.trod laidOut (by kernel_rfl) (of_decide_eq_true (by kernel_rfl)) k0 bel lt0) (trodAll_cons_mk (shut_int Tryz.underlying2 w1) (trodAll_cons_mk (shut_bool Tryz.underlying4 _) (trodAll_cons_mk (shut_int Tryz.underlying5 w3) trodAll_mk0)))), rfl, bel.frame _, fun h => by cases h⟩

theorem over : Rows.loopHeldRow.holds Tryz.pinned (OpenSpec.ofChange Rows.loopHeldSpec) :=
  OpenClaim.holds_of_wide 4 Tryz.f4 rfl rfl rfl rfl rfl rfl rfl ⟨rfl, rfl, rfl, rfl, rfl⟩ rfl rfl rfl rfl rfl (by kernel_rfl) Tryz.func4 (by kernel_rfl)
    (of_decide_eq_true (by kernel_rfl)) (by unfold Func.isWrapper; first | (rw [if_pos (by decide +kernel)]; kernel_rfl) | (rw [if_neg (by decide +kernel)]; exact ⟨rfl, rfl⟩))
    (fun os started H enc _ => lifted os started H enc)

theorem proved : Rows.LoopHeldSaid := over
end Go.Proofs.YtlidlmgmijndcaaGreat.LoopHeld
