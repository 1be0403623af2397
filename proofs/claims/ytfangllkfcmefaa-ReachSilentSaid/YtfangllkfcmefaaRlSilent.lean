/- ReachSilent: for every list of at most 200 draws, behind every beginning, a server that never answers is asked less and less often. (A longer list is let go by the statement itself.) No condition. -/
import Derived.Test.YtfangllkfcmefaaRcY
import Derived.Test.YtfangllkfcmefaaRcZ
import Derived.Test.YtfangllkfcmefaaRcB
import Derived.Test.YtfangllkfcmefaaRowS
import Derived.WalkKit
import Derived.WalkSpells
import Derived.WalkLawsBesides
import Derived.Lib.Hide
import Derived.Handy
import Derived.ProofKit
import Derived.OpenShut
import Derived.ShutString
import Derived.ChangeOld
import Derived.Below
namespace Go.Proofs.Ytfangllkfcmefaa.ReachSilent
open Go.Proofs.Ytfangllkfcmefaa.W
open Go.ChangeShapes Go.WideShapes Go.ChangeAt Go.RowKit
open Go.ChangeMaps (open_string shut_string)
set_option linter.unusedVariables false
theorem own : ownKnob Try.prog.godebug = none := by kernel_rfl
theorem laidOut : laidOutB Try.prog = true := by kernel_rfl
open Go.Sort
set_option linter.unusedSimpArgs false
set_option maxRecDepth 100000 in
set_option maxHeartbeats 25600000 in
theorem walk (a0 : Option Addr) (len0 cap0 : Nat) (zs : List Int) (a1 : Int) (w : World) (w0 : IsRow .u32 w a0 len0 cap0 zs) (w1 : (Lit.int .u8 a1).wf = true) :
    Calls Try.prog 4 #[.slice a0 len0 cap0, .int .u8 a1] w fun e w' => e = .returned (.bool true) ∧ Below w.heap.size w w' := by
  obtain ⟨z, rfl, hz, iv⟩ := w0.sl
  have b1 := u8_bounds w1
  have IV := Lib.hid iv
  have HZ := Lib.hid hz
  clear iv hz w0 w1
  have c1 := std11_any
  have c3 := shown11_any
  have H := std_params
  generalize chkP stdC = p at *
  by_cases hl : 200 < z.length
  · have hli : 200 < (z.length : Int) := by omega
    go_enter Try.func4, Try.ntmps4
    go_wp2_with fail
    (with_reducible refine (c3 _).mono ?_)
    rintro e w1 ⟨rfl, hB⟩
    go_wp2_with fail
    go_ret
    exact ⟨rfl, hB⟩
  · have hli : ¬ 200 < (z.length : Int) := by omega
    have c2 := hstart_any p H.typed 0 0 (by decide) (by decide) (by decide) (by decide)
    have K0 := sil_start H
    generalize startS p 0 0 = s0 at *
    unfold Pm.val at c1 c2
    unfold Rs.val at c2
    rw [H.minpoll, H.maxpoll, H.burst] at c1 c2
    have HH := Lib.hid H
    have KK := Lib.hid K0
    clear H K0
    go_enter Try.func4, Try.ntmps4
    go_wp2_with fail
    (with_reducible refine (c3 _).mono ?_)
    rintro e w1 ⟨rfl, hB1⟩
    go_wp2_with fail
    (with_reducible refine (c1 _).mono ?_)
    rintro e w2 ⟨rfl, hB2⟩
    have hq2 := hB1.trans (hB2.mono hB1.size)
    have hq3 := hq2.alloc hq2.size (.cells #[.int .i64 p.step, .int .i64 p.watch, .int .i64 p.panic, .int .i64 p.maxrate, .int .i64 p.phi, .int .i64 p.maxdist, .int .i64 p.gate, .int .i64 6, .int .i64 10, .int .i64 0, .int .i64 p.minsane, .int .i64 p.minleft] 26)
    have hp3 := heap_alloc_new w2 (.cells #[.int .i64 p.step, .int .i64 p.watch, .int .i64 p.panic, .int .i64 p.maxrate, .int .i64 p.phi, .int .i64 p.maxdist, .int .i64 p.gate, .int .i64 6, .int .i64 10, .int .i64 0, .int .i64 p.minsane, .int .i64 p.minleft] 26)
    go_upto_region 4 with fail
    generalize w2.alloc (.cells #[.int .i64 p.step, .int .i64 p.watch, .int .i64 p.panic, .int .i64 p.maxrate, .int .i64 p.phi, .int .i64 p.maxdist, .int .i64 p.gate, .int .i64 6, .int .i64 10, .int .i64 0, .int .i64 p.minsane, .int .i64 p.minleft] 26) = w3 at *
    have hwp := hq2.size
    generalize w2.heap.size = bp at *
    obtain ⟨q0, q1, q2, q3, q4, q5, q6, q7, q8, q9, q10, q11⟩ := twelve_at hp3
    clear hB1 hB2 hq2
    go_wp2_with fail
    (with_reducible refine (c2 _).mono ?_)
    rintro e w4 ⟨rfl, hB4⟩
    have hq4 := hq3.trans (hB4.mono hq3.size)
    have hp4 := kept hp3 hB4
    have hlp := (Array.getElem?_eq_some_iff.1 hp4).1
    have hq5 := hq4.alloc hq4.size (.cells #[.int .u8 s0.reg, .int .i64 s0.host, .int .i64 s0.peer, .int .i64 s0.burst, .int .i64 s0.next] 23)
    have hp5 := laid (.cells #[.int .u8 s0.reg, .int .i64 s0.host, .int .i64 s0.peer, .int .i64 s0.burst, .int .i64 s0.next] 23) hp4
    have hs5 := heap_alloc_new w4 (.cells #[.int .u8 s0.reg, .int .i64 s0.host, .int .i64 s0.peer, .int .i64 s0.burst, .int .i64 s0.next] 23)
    clear q0 q1 q2 q3 q4 q5 q6 q7 q8 q9 q10 q11 hp3 hB4 hq3 hp4
    go_upto_region 5 with fail
    generalize w4.alloc (.cells #[.int .u8 s0.reg, .int .i64 s0.host, .int .i64 s0.peer, .int .i64 s0.burst, .int .i64 s0.next] 23) = w5 at *
    have hwb := hq4.size
    generalize w4.heap.size = bs at *
    have hne : bp ≠ bs := by omega
    clear hq4 hlp c1 c2 c3 w1 w2 w3 w4
    obtain ⟨n, hn⟩ : ∃ n : Nat, a1 % 20 = (n : Int) := ⟨(a1 % 20).toNat, by omega⟩
    have hn20 : n < 20 := by omega
    go_wp2_with fail
    go_loopw [7] (fun i wr => ∃ (j : Nat) (s : Rs), j ≤ n ∧ i = .int .i64 j ∧ SilAt j 0 s ∧ wr.heap[bp]? = some (.cells #[.int .i64 p.step, .int .i64 p.watch, .int .i64 p.panic, .int .i64 p.maxrate, .int .i64 p.phi, .int .i64 p.maxdist, .int .i64 p.gate, .int .i64 6, .int .i64 10, .int .i64 0, .int .i64 p.minsane, .int .i64 p.minleft] 26 (0, 0)) ∧ wr.heap[bs]? = some (.cells #[.int .u8 s.reg, .int .i64 s.host, .int .i64 s.peer, .int .i64 s.burst, .int .i64 s.next] 23 (0, 0)) ∧ Below w.heap.size w wr) (fun i _ => n - (intOf i).toNat)
    case atStart => exact ⟨0, s0, Nat.zero_le _, rfl, KK.out, hp5, hs5, hq5⟩
    case round =>
      obtain ⟨j, s, hj, rfl, K, hp, hs, hq⟩ := hrel
      clear hp5 hs5 hq5
      have H := HH.out
      by_cases hlt : j < n
      · have i1 : (j : Int) < (n : Int) := by omega
        have y1 := hsent_any p H.typed s (K.typed (by omega)) s.next 0 (K.typed (by omega)).next.1 (K.typed (by omega)).next.2 (by decide) (by decide)
        have K1 := (sil_sent H K (by omega) (d := 0) (by decide) (by decide)).1
        generalize sentS p s s.next 0 = s1 at *
        have y2 := hheard_any p H.typed s1 (K1.typed (by omega)) 10 (by decide) (by decide)
        have K2 := sil_heard H K1 10
        generalize heardS p s1 10 = s2 at *
        unfold Pm.val Rs.val at y1 y2
        rw [H.minpoll, H.maxpoll, H.burst] at y1 y2
        clear K K1 H
        obtain ⟨q0, q1, q2, q3, q4, q5, q6, q7, q8, q9, q10, q11⟩ := twelve_at hp
        obtain ⟨r0, r1, r2, r3, r4⟩ := five_in hs
        have fr := five_thaw hs
        have k0 := cell_regrown q0
        have k1 := cell_regrown q1
        have k2 := cell_regrown q2
        have k3 := cell_regrown q3
        have k4 := cell_regrown q4
        have k5 := cell_regrown q5
        have k6 := cell_regrown q6
        have k7 := cell_regrown q7
        have k8 := cell_regrown q8
        have k9 := cell_regrown q9
        have k10 := cell_regrown q10
        have k11 := cell_regrown q11
        have l0 := cell_regrown r0
        have l1 := cell_regrown r1
        have l2 := cell_regrown r2
        have l3 := cell_regrown r3
        have l4 := cell_regrown r4
        have f2 := fun d os => Calls.regrown_of (y1 (grow (redrawn wr d) os))
        have f3 := fun d os => Calls.regrown_of (y2 (grow (redrawn wr d) os))
        go_wp2_with fail
        refine wp_region_below_tail 7 (by kernel_rfl) (by kernel_rfl) ?_
        simp only [List.take_succ_cons, List.take_zero, List.drop_succ_cons, List.drop_zero]
        repeat (quiet_step (first | (with_reducible exact f2 _ _) | (with_reducible exact f3 _ _)))
        refine wpQuiet_nil ?_
        intro wa hwa
        replace hwa := quiet_world10 hwa
        clear f2 f3 y1 y2
        clear k0 k1 k2 k3 k4 k5 k6 k7 k8 k9 k10 k11 l0 l1 l2 l3 l4
        clear r0 r1 r2 r3 r4 fr q0 q1 q2 q3 q4 q5 q6 q7 q8 q9 q10 q11
        have hpwa := kept hp hwa
        have hswa := kept hs hwa
        have hqwa := hq.trans (hwa.mono hq.size)
        clear hp hs hq hwa
        have hsB := five_block (.int .u8 s2.reg) (.int .i64 s2.host) (.int .i64 s2.peer) (.int .i64 s2.burst) (.int .i64 s2.next) hswa
        have hpB := (five_far (.int .u8 s2.reg) (.int .i64 s2.host) (.int .i64 s2.peer) (.int .i64 s2.burst) (.int .i64 s2.next) hne).trans hpwa
        have hqB := five_below (.int .u8 s2.reg) (.int .i64 s2.host) (.int .i64 s2.peer) (.int .i64 s2.burst) (.int .i64 s2.next) hqwa hwb
        obtain ⟨r0, r1, r2, r3, r4⟩ := five_in hswa
        have fr := five_thaw hswa
        have E := Lib.hid (And.intro hsB (And.intro hpB hqB))
        clear hsB hpB hqB hpwa hswa hqwa
        unfold five at E
        go_upto_region 7 with fail
        change Code.wp _ _ _ _ (five wa bs (.int .u8 s2.reg) (.int .i64 s2.host) (.int .i64 s2.peer) (.int .i64 s2.burst) (.int .i64 s2.next))
        obtain ⟨hsB, hpB, hqB⟩ := E.out
        change (five wa bs (.int .u8 s2.reg) (.int .i64 s2.host) (.int .i64 s2.peer) (.int .i64 s2.burst) (.int .i64 s2.next)).heap[bs]? = _ at hsB
        change (five wa bs (.int .u8 s2.reg) (.int .i64 s2.host) (.int .i64 s2.peer) (.int .i64 s2.burst) (.int .i64 s2.next)).heap[bp]? = _ at hpB
        change Below _ _ (five wa bs (.int .u8 s2.reg) (.int .i64 s2.host) (.int .i64 s2.peer) (.int .i64 s2.burst) (.int .i64 s2.next)) at hqB
        clear E r0 r1 r2 r3 r4 fr
        generalize five wa bs (.int .u8 s2.reg) (.int .i64 s2.host) (.int .i64 s2.peer) (.int .i64 s2.burst) (.int .i64 s2.next) = wb at *
        go_wp2_with fail
        go_roundw
        case rel => exact ⟨j + 1, s2, by omega, by go_num, K2, hpB, hsB, hqB⟩
        case measure => simp [intOf]; omega
      · obtain rfl : j = n := by omega
        have i1 : ¬ (j : Int) < (j : Int) := by omega
        have y1 := hheard_any p H.typed s (K.typed (by omega)) 10 (by decide) (by decide)
        have K1 := sil_heard H K 10
        generalize heardS p s 10 = s1 at *
        unfold Pm.val Rs.val at y1
        rw [H.minpoll, H.maxpoll, H.burst] at y1
        have KK1 := Lib.hid K1
        generalize hjn : j = n at *
        clear K K1 H
        obtain ⟨q0, q1, q2, q3, q4, q5, q6, q7, q8, q9, q10, q11⟩ := twelve_at hp
        obtain ⟨r0, r1, r2, r3, r4⟩ := five_in hs
        have fr := five_thaw hs
        go_wp2_with fail
        (with_reducible refine (y1 _).mono ?_)
        rintro e wa ⟨rfl, hBa⟩
        clear r0 r1 r2 r3 r4 fr q0 q1 q2 q3 q4 q5 q6 q7 q8 q9 q10 q11
        have hpwa := kept hp hBa
        have hswa := kept hs hBa
        have hqwa := hq.trans (hBa.mono hq.size)
        clear hp hs hq hBa y1
        have hsB := five_block (.int .u8 s1.reg) (.int .i64 s1.host) (.int .i64 s1.peer) (.int .i64 s1.burst) (.int .i64 s1.next) hswa
        have hpB := (five_far (.int .u8 s1.reg) (.int .i64 s1.host) (.int .i64 s1.peer) (.int .i64 s1.burst) (.int .i64 s1.next) hne).trans hpwa
        have hqB := five_below (.int .u8 s1.reg) (.int .i64 s1.host) (.int .i64 s1.peer) (.int .i64 s1.burst) (.int .i64 s1.next) hqwa hwb
        obtain ⟨r0, r1, r2, r3, r4⟩ := five_in hswa
        have fr := five_thaw hswa
        have E := Lib.hid (And.intro hsB (And.intro hpB hqB))
        clear hsB hpB hqB hpwa hswa hqwa
        unfold five at E
        go_upto_region 10 with fail
        change Code.wp _ _ _ _ (five wa bs (.int .u8 s1.reg) (.int .i64 s1.host) (.int .i64 s1.peer) (.int .i64 s1.burst) (.int .i64 s1.next))
        obtain ⟨hsB, hpB, hqB⟩ := E.out
        change (five wa bs (.int .u8 s1.reg) (.int .i64 s1.host) (.int .i64 s1.peer) (.int .i64 s1.burst) (.int .i64 s1.next)).heap[bs]? = _ at hsB
        change (five wa bs (.int .u8 s1.reg) (.int .i64 s1.host) (.int .i64 s1.peer) (.int .i64 s1.burst) (.int .i64 s1.next)).heap[bp]? = _ at hpB
        change Below _ _ (five wa bs (.int .u8 s1.reg) (.int .i64 s1.host) (.int .i64 s1.peer) (.int .i64 s1.burst) (.int .i64 s1.next)) at hqB
        clear E r0 r1 r2 r3 r4 fr
        generalize five wa bs (.int .u8 s1.reg) (.int .i64 s1.host) (.int .i64 s1.peer) (.int .i64 s1.burst) (.int .i64 s1.next) = wb at *
        go_wp2_with fail
        go_loopw [8] (fun i wr => ∃ (j : Nat) (s : Rs), j ≤ z.length ∧ i = .int .i64 j ∧ SilAt (n + j) j s ∧ wr.heap[bp]? = some (.cells #[.int .i64 p.step, .int .i64 p.watch, .int .i64 p.panic, .int .i64 p.maxrate, .int .i64 p.phi, .int .i64 p.maxdist, .int .i64 p.gate, .int .i64 6, .int .i64 10, .int .i64 0, .int .i64 p.minsane, .int .i64 p.minleft] 26 (0, 0)) ∧ wr.heap[bs]? = some (.cells #[.int .u8 s.reg, .int .i64 s.host, .int .i64 s.peer, .int .i64 s.burst, .int .i64 s.next] 23 (0, 0)) ∧ Below w.heap.size w wr) (fun i _ => z.length - (intOf i).toNat)
        case atStart => exact ⟨0, s1, Nat.zero_le _, rfl, KK1.out, hpB, hsB, hqB⟩
        case round =>
          obtain ⟨j, s, hj, rfl, K, hp, hs, hq⟩ := hrel
          clear hpB hsB hqB
          have H := HH.out
          by_cases hlt : j < z.length
          · obtain ⟨y, hy, hym⟩ := at_index z j hlt
            rcases IV.out with ⟨_, _, _, _, rfl⟩ | ⟨b, off, cap, hv, hbl, hc⟩
            · simp at hlt
            · simp only [Value.slice.injEq] at hv
              obtain ⟨rfl, _, rfl⟩ := hv
              have yb := u32_bounds (HZ.out y hym)
              have hcj : w.cell? ⟨b, off + j, none⟩ = some (.int .u32 y) := by
                have := hc j y hy 0 _ rfl
                rw [Nat.mul_one, Nat.add_zero] at this
                exact this
              have cw := ((bcell hq).1 b _ hbl).trans hcj
              have i0 : (0 : Int) ≤ (j : Int) := by omega
              have i1 : (j : Int) < (z.length : Int) := by omega
              have y1 := hsent_any p H.typed s (K.typed (by omega)) s.next y (K.typed (by omega)).next.1 (K.typed (by omega)).next.2 yb.1 yb.2
              obtain ⟨K1, x1, x2, x3, x4⟩ := sil_sent H K (by omega) yb.1 yb.2
              generalize sentS p s s.next y = t at *
              unfold Pm.val Rs.val at y1
              rw [H.minpoll, H.maxpoll, H.burst] at y1
              have hk0 := K.next
              clear hy hcj K H hc
              obtain ⟨q0, q1, q2, q3, q4, q5, q6, q7, q8, q9, q10, q11⟩ := twelve_at hp
              obtain ⟨r0, r1, r2, r3, r4⟩ := five_in hs
              have fr := five_thaw hs
              have k0 := cell_regrown q0
              have k1 := cell_regrown q1
              have k2 := cell_regrown q2
              have k3 := cell_regrown q3
              have k4 := cell_regrown q4
              have k5 := cell_regrown q5
              have k6 := cell_regrown q6
              have k7 := cell_regrown q7
              have k8 := cell_regrown q8
              have k9 := cell_regrown q9
              have k10 := cell_regrown q10
              have k11 := cell_regrown q11
              have l0 := cell_regrown r0
              have l1 := cell_regrown r1
              have l2 := cell_regrown r2
              have l3 := cell_regrown r3
              have l4 := cell_regrown r4
              have k12 := cell_regrown cw
              have f2 := fun d os => again_of (y1 (grow (redrawn wr d) os))
              go_wp2_with fail
              refine wp_region_var 9 9 (ob := .cells #[.int .u8 0, .int .i64 0, .int .i64 0, .int .i64 0, .int .i64 0] 23 (0, 0)) (by kernel_rfl) (by kernel_rfl) rfl rfl (fun _ => rfl) rfl (by kernel_rfl) (by simp) (fun a v K hK => by go_simp; exact hK) ?_
              simp only [List.take_succ_cons, List.take_zero, List.drop_succ_cons, List.drop_zero]
              repeat (refine wpR_step (fun K hK => ?_); go_simp; first | (refine hK _ ?_; clear hK K) | (apply Exists.intro; refine ⟨fun _ => ?_, hK _ ?_⟩; ((with_reducible exact f2 _ _)); clear hK K))
              refine wpR_nil ⟨by simp, ?_⟩
              intro bt wv hbt hvt hBv
              clear f2 y1 k12 cw
              clear k0 k1 k2 k3 k4 k5 k6 k7 k8 k9 k10 k11 l0 l1 l2 l3 l4
              clear r0 r1 r2 r3 r4 fr q0 q1 q2 q3 q4 q5 q6 q7 q8 q9 q10 q11
              have nbp : bp ≠ bt := fun e => by have := (Array.getElem?_eq_some_iff.1 hp).1; omega
              have nbs : bs ≠ bt := fun e => by have := (Array.getElem?_eq_some_iff.1 hs).1; omega
              have hwt : w.heap.size ≤ bt := Nat.le_trans hq.size hbt
              have hpv := kept hp hBv
              have hsv := kept hs hBv
              have hqv := hq.trans (hBv.mono hq.size)
              clear hp hs hq hBv hbt
              have htC := five_block (.int .u8 t.reg) (.int .i64 t.host) (.int .i64 t.peer) (.int .i64 t.burst) (.int .i64 t.next) hvt
              have hpC := (five_far (.int .u8 t.reg) (.int .i64 t.host) (.int .i64 t.peer) (.int .i64 t.burst) (.int .i64 t.next) nbp).trans hpv
              have hsC := (five_far (.int .u8 t.reg) (.int .i64 t.host) (.int .i64 t.peer) (.int .i64 t.burst) (.int .i64 t.next) nbs).trans hsv
              have hqC := five_below (.int .u8 t.reg) (.int .i64 t.host) (.int .i64 t.peer) (.int .i64 t.burst) (.int .i64 t.next) hqv hwt
              obtain ⟨r0, r1, r2, r3, r4⟩ := five_in hvt
              have fr := five_thaw hvt
              have E := Lib.hid (And.intro htC (And.intro hpC (And.intro hsC hqC)))
              clear htC hpC hsC hqC hpv hsv hqv hvt
              unfold five at E
              go_upto_region 14 with fail
              change Code.wp _ _ _ _ (five wv bt (.int .u8 t.reg) (.int .i64 t.host) (.int .i64 t.peer) (.int .i64 t.burst) (.int .i64 t.next))
              obtain ⟨htC, hpC, hsC, hqC⟩ := E.out
              change (five wv bt (.int .u8 t.reg) (.int .i64 t.host) (.int .i64 t.peer) (.int .i64 t.burst) (.int .i64 t.next)).heap[bt]? = _ at htC
              change (five wv bt (.int .u8 t.reg) (.int .i64 t.host) (.int .i64 t.peer) (.int .i64 t.burst) (.int .i64 t.next)).heap[bp]? = _ at hpC
              change (five wv bt (.int .u8 t.reg) (.int .i64 t.host) (.int .i64 t.peer) (.int .i64 t.burst) (.int .i64 t.next)).heap[bs]? = _ at hsC
              change Below _ _ (five wv bt (.int .u8 t.reg) (.int .i64 t.host) (.int .i64 t.peer) (.int .i64 t.burst) (.int .i64 t.next)) at hqC
              clear E r0 r1 r2 r3 r4 fr
              generalize five wv bt (.int .u8 t.reg) (.int .i64 t.host) (.int .i64 t.peer) (.int .i64 t.burst) (.int .i64 t.next) = wc at *
              have x1' : ¬ t.host < s.host := by omega
              have x2' : ¬ t.next ≤ s.next := by omega
              by_cases h7 : 7 ≤ j
              · have h7i : (7 : Int) ≤ (j : Int) := by omega
                have y5 := hans_any t (K1.typed (by omega))
                rw [x3 h7] at y5
                unfold Rs.val at y5
                by_cases h40 : 40 ≤ j
                · have h40i : (40 : Int) ≤ (j : Int) := by omega
                  have hta : (10 : Int) ≤ t.host := by have := x4 h40; omega
                  have htb : t.host ≤ 10 := by omega
                  clear x4
                  obtain ⟨t0, t1, t2, t3, t4⟩ := five_in htC
                  obtain ⟨r0, r1, r2, r3, r4⟩ := five_in hsC
                  obtain ⟨q0, q1, q2, q3, q4, q5, q6, q7, q8, q9, q10, q11⟩ := twelve_at hpC
                  go_wp2_with fail
                  (with_reducible refine (y5 _).mono ?_)
                  rintro e wd ⟨rfl, hBd⟩
                  replace htC := kept htC hBd
                  replace hpC := kept hpC hBd
                  replace hsC := kept hsC hBd
                  replace hqC := hqC.trans (hBd.mono hqC.size)
                  clear hBd t0 t1 t2 t3 t4 r0 r1 r2 r3 r4 q0 q1 q2 q3 q4 q5 q6 q7 q8 q9 q10 q11
                  obtain ⟨t0, t1, t2, t3, t4⟩ := five_in htC
                  obtain ⟨r0, r1, r2, r3, r4⟩ := five_in hsC
                  obtain ⟨q0, q1, q2, q3, q4, q5, q6, q7, q8, q9, q10, q11⟩ := twelve_at hpC
                  go_upto_region 16 with fail
                  clear t0 t1 t2 t3 t4 r0 r1 r2 r3 r4 q0 q1 q2 q3 q4 q5 q6 q7 q8 q9 q10 q11
                  have hsD := five_block (.int .u8 t.reg) (.int .i64 t.host) (.int .i64 t.peer) (.int .i64 t.burst) (.int .i64 t.next) hsC
                  have hpD := (five_far (.int .u8 t.reg) (.int .i64 t.host) (.int .i64 t.peer) (.int .i64 t.burst) (.int .i64 t.next) hne).trans hpC
                  have hqD := five_below (.int .u8 t.reg) (.int .i64 t.host) (.int .i64 t.peer) (.int .i64 t.burst) (.int .i64 t.next) hqC hwb
                  obtain ⟨t0, t1, t2, t3, t4⟩ := five_in htC
                  obtain ⟨r0, r1, r2, r3, r4⟩ := five_in hsC
                  have fr := five_thaw hsC
                  have E := Lib.hid (And.intro hsD (And.intro hpD hqD))
                  clear hsD hpD hqD hpC hsC hqC htC
                  unfold five at E
                  go_wp2_with fail
                  go_roundw
                  case rel => exact ⟨j + 1, t, by omega, by go_num, by rw [show n + (j + 1) = n + j + 1 by omega]; exact K1, E.out.2.1, E.out.1, E.out.2.2⟩
                  case measure => simp [intOf]; omega
                · have h40i : (j : Int) < 40 := by omega
                  obtain ⟨t0, t1, t2, t3, t4⟩ := five_in htC
                  obtain ⟨r0, r1, r2, r3, r4⟩ := five_in hsC
                  obtain ⟨q0, q1, q2, q3, q4, q5, q6, q7, q8, q9, q10, q11⟩ := twelve_at hpC
                  go_wp2_with fail
                  (with_reducible refine (y5 _).mono ?_)
                  rintro e wd ⟨rfl, hBd⟩
                  replace htC := kept htC hBd
                  replace hpC := kept hpC hBd
                  replace hsC := kept hsC hBd
                  replace hqC := hqC.trans (hBd.mono hqC.size)
                  clear hBd t0 t1 t2 t3 t4 r0 r1 r2 r3 r4 q0 q1 q2 q3 q4 q5 q6 q7 q8 q9 q10 q11
                  obtain ⟨t0, t1, t2, t3, t4⟩ := five_in htC
                  obtain ⟨r0, r1, r2, r3, r4⟩ := five_in hsC
                  obtain ⟨q0, q1, q2, q3, q4, q5, q6, q7, q8, q9, q10, q11⟩ := twelve_at hpC
                  go_upto_region 16 with fail
                  clear t0 t1 t2 t3 t4 r0 r1 r2 r3 r4 q0 q1 q2 q3 q4 q5 q6 q7 q8 q9 q10 q11
                  have hsD := five_block (.int .u8 t.reg) (.int .i64 t.host) (.int .i64 t.peer) (.int .i64 t.burst) (.int .i64 t.next) hsC
                  have hpD := (five_far (.int .u8 t.reg) (.int .i64 t.host) (.int .i64 t.peer) (.int .i64 t.burst) (.int .i64 t.next) hne).trans hpC
                  have hqD := five_below (.int .u8 t.reg) (.int .i64 t.host) (.int .i64 t.peer) (.int .i64 t.burst) (.int .i64 t.next) hqC hwb
                  obtain ⟨t0, t1, t2, t3, t4⟩ := five_in htC
                  obtain ⟨r0, r1, r2, r3, r4⟩ := five_in hsC
                  have fr := five_thaw hsC
                  have E := Lib.hid (And.intro hsD (And.intro hpD hqD))
                  clear hsD hpD hqD hpC hsC hqC htC
                  unfold five at E
                  go_wp2_with fail
                  go_roundw
                  case rel => exact ⟨j + 1, t, by omega, by go_num, by rw [show n + (j + 1) = n + j + 1 by omega]; exact K1, E.out.2.1, E.out.1, E.out.2.2⟩
                  case measure => simp [intOf]; omega
              · have h7i : (j : Int) < 7 := by omega
                have h40i : (j : Int) < 40 := by omega
                obtain ⟨t0, t1, t2, t3, t4⟩ := five_in htC
                obtain ⟨r0, r1, r2, r3, r4⟩ := five_in hsC
                obtain ⟨q0, q1, q2, q3, q4, q5, q6, q7, q8, q9, q10, q11⟩ := twelve_at hpC
                go_upto_region 16 with fail
                clear t0 t1 t2 t3 t4 r0 r1 r2 r3 r4 q0 q1 q2 q3 q4 q5 q6 q7 q8 q9 q10 q11
                have hsD := five_block (.int .u8 t.reg) (.int .i64 t.host) (.int .i64 t.peer) (.int .i64 t.burst) (.int .i64 t.next) hsC
                have hpD := (five_far (.int .u8 t.reg) (.int .i64 t.host) (.int .i64 t.peer) (.int .i64 t.burst) (.int .i64 t.next) hne).trans hpC
                have hqD := five_below (.int .u8 t.reg) (.int .i64 t.host) (.int .i64 t.peer) (.int .i64 t.burst) (.int .i64 t.next) hqC hwb
                obtain ⟨t0, t1, t2, t3, t4⟩ := five_in htC
                obtain ⟨r0, r1, r2, r3, r4⟩ := five_in hsC
                have fr := five_thaw hsC
                have E := Lib.hid (And.intro hsD (And.intro hpD hqD))
                clear hsD hpD hqD hpC hsC hqC htC
                unfold five at E
                go_wp2_with fail
                go_roundw
                case rel => exact ⟨j + 1, t, by omega, by go_num, by rw [show n + (j + 1) = n + j + 1 by omega]; exact K1, E.out.2.1, E.out.1, E.out.2.2⟩
                case measure => simp [intOf]; omega
          · obtain rfl : j = z.length := by omega
            obtain ⟨r0, r1, r2, r3, r4⟩ := five_in hs
            have k0 := K.next.1
            go_wp2_with fail
            go_ret
            exact ⟨rfl, hq⟩
set_option maxRecDepth 100000 in
theorem lifted (os : Os) (started : os.Started) (H : Type) (enc : TypeId × Value → H) :
    ReturnsInHanded {} Try.checked os 4 .any (Rows.reachSilentSpec.pre6 enc Try.prog Try.f4 Rows.reachSilentRow.domain false) (Rows.reachSilentSpec.post enc Try.prog Try.f4 false true false false) := by
  refine returnsInHanded_of_change (C := Try.checked) own started (by kernel_rfl) Try.func4
    (ChangeSpec.witness6 (enc := enc) (C := Try.checked) false ⟨#[], #[.slice none 0 0, .int .u8 0], []⟩ 8 (by kernel_rfl) (by kernel_rfl) (by kernel_rfl) (by kernel_rfl)) ?_
  intro W base args ds gs before hval0 hW hcnd _
  have hval : ∀ (j : Nat) t v, Try.f4.params[j]? = some t → args[j]? = some v → Value.okWide Try.prog W .any base t v := hval0
  have hW' := hW
  obtain ⟨p, q, hA0, hV, rfl, hfz, hnd⟩ := hW
  have hA : DataW.TrodAll enc Try.prog W 0 (fun _ => true) true Try.f4.params.toList args.toList ds p := hA0
  rw [Try.params4] at hA hval
  obtain ⟨v0, vs0, d0, ds0, p0, q0, hargs, rfl, rfl, h0, r0⟩ := trodAll_cons hA
  obtain ⟨v1, vs1, d1, ds1, p1, q1, rfl, rfl, rfl, h1, r1⟩ := trodAll_cons r0
  obtain ⟨rfl, rfl, rfl⟩ := trodAll_nil r1
  obtain rfl : args = #[v0, v1] := by cases args; simp_all
  obtain ⟨rfl, rfl⟩ := trodVars_none hV
  obtain ⟨a0, len0, cap0, rfl⟩ := okWide_slice Try.underlying32 (hval 0 32 v0 rfl rfl)
  have k0 := h0
  have lt0 : ∀ x ∈ p0, x.block < W.heap.size := by obtain ⟨m, hm⟩ := k0; exact DataW.trod_lt m _ _ _ hm
  obtain ⟨z0, w0⟩ : ∃ zs, IsRow .u32 W a0 len0 cap0 zs := by
    obtain ⟨fuel, hf⟩ := h0
    rcases open_ints Try.underlying32 Try.underlying24 (by kernel_rfl) hf with ⟨hcs, _⟩ | ⟨x, l, c, zs, hcs, _, hl, hm, hz, _, hcell, hwz⟩
    · simp [Value.cells] at hcs
      obtain ⟨rfl, rfl, rfl⟩ := hcs
      exact ⟨[], .inl ⟨rfl, rfl, rfl, rfl⟩⟩
    · simp [Value.cells] at hcs
      obtain ⟨rfl, rfl, rfl⟩ := hcs
      exact ⟨zs, .inr ⟨_, rfl, hl, hm, by simpa using hz, hcell, hwz⟩⟩
  obtain ⟨a1, rfl, rfl, rfl, w1⟩ := open_int Try.underlying5 (hval 1 5 v1 rfl rfl) h1
  clear hA0 hval0
  refine (walk a0 len0 cap0 z0 a1 W w0 w1).mono fun e W' ⟨he, bel⟩ => ?_
  subst he
  exact ⟨_, rfl, _, _, _, [], _, [], hW', trodAll_mk1 (shut_bool Try.underlying4 _), (trodAll_cons_mk (Below.trod laidOut (by kernel_rfl) (of_decide_eq_true (by kernel_rfl)) k0 bel lt0) (trodAll_cons_mk (shut_int Try.underlying5 w1) trodAll_mk0)), rfl, bel.frame _, fun h => by cases h⟩

theorem over : Rows.reachSilentRow.holds Try.pinned (OpenSpec.ofChange Rows.reachSilentSpec) :=
  OpenClaim.holds_of_wide 4 Try.f4 rfl rfl rfl rfl rfl rfl rfl ⟨rfl, rfl, rfl, rfl, rfl⟩ rfl rfl rfl rfl rfl (by kernel_rfl) Try.func4 (by kernel_rfl)
    (of_decide_eq_true (by kernel_rfl)) (by unfold Func.isWrapper; first | (rw [if_pos (by decide +kernel)]; kernel_rfl) | (rw [if_neg (by decide +kernel)]; exact ⟨rfl, rfl⟩))
    (fun os started H enc _ => lifted os started H enc)

theorem proved : Rows.ReachSilentSaid := over
end Go.Proofs.Ytfangllkfcmefaa.ReachSilent
