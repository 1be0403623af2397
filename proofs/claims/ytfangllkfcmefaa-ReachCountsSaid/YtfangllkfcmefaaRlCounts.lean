/- ReachCounts: for every list of at most 200 answers, each heard once or twice, what is counted is what the last eight were. (A longer list is let go by the statement itself.) No condition. -/
import Derived.Test.YtfangllkfcmefaaRcY
import Derived.Test.YtfangllkfcmefaaRcZ
import Derived.Test.YtfangllkfcmefaaRcB
import Derived.Test.YtfangllkfcmefaaRowS
import Derived.WalkKit
import Derived.WalkSpells
import Derived.WalkLawsBesides
import Derived.Lib.Hide
import Derived.Handy
import Derived.ProofKit
import Derived.OpenShut
import Derived.ShutString
import Derived.ChangeOld
import Derived.Below
namespace Go.Proofs.Ytfangllkfcmefaa.ReachCounts
open Go.Proofs.Ytfangllkfcmefaa.W
open Go.ChangeShapes Go.WideShapes Go.ChangeAt Go.RowKit
open Go.ChangeMaps (open_string shut_string)
set_option linter.unusedVariables false
theorem own : ownKnob Try.prog.godebug = none := by kernel_rfl
theorem laidOut : laidOutB Try.prog = true := by kernel_rfl
open Go.Sort
set_option linter.unusedSimpArgs false
set_option maxRecDepth 100000 in
set_option maxHeartbeats 25600000 in
theorem walk (v : Value) (z : List Bool) (tw : Bool) (w : World) (iv : SlAt (fun b => b < w.heap.size) 1 boE w v z) (ty : ∀ f ∈ z, (fun _ => True) f) (hlen : z.length ≤ maxLen) :
    Calls Try.prog 5 #[v, .bool tw] w fun e w' => e = .returned (.bool true) ∧ Below w.heap.size w w' := by
  obtain ⟨vx, vc, rfl⟩ := iv.slice
  have IV := Lib.hid iv
  clear iv ty
  have c1 := std11_any
  have c3 := shown11_any
  have H := std_params
  generalize chkP stdC = p at *
  by_cases hl : 200 < z.length
  · have hli : 200 < (z.length : Int) := by omega
    go_enter Try.func5, Try.ntmps5
    go_wp2_with fail
    (with_reducible refine (c3 _).mono ?_)
    rintro e w1 ⟨rfl, hB⟩
    go_wp2_with fail
    go_ret
    exact ⟨rfl, hB⟩
  · have hli : ¬ 200 < (z.length : Int) := by omega
    have c2 := hstart_any p H.typed 0 0 (by decide) (by decide) (by decide) (by decide)
    have K0 := cnt_start H
    generalize startS p 0 0 = s0 at *
    unfold Pm.val at c1 c2
    unfold Rs.val at c2
    rw [H.minpoll, H.maxpoll, H.burst] at c1 c2
    have HH := Lib.hid H
    have KK := Lib.hid K0
    clear H K0
    go_enter Try.func5, Try.ntmps5
    go_wp2_with fail
    (with_reducible refine (c3 _).mono ?_)
    rintro e w1 ⟨rfl, hB1⟩
    go_wp2_with fail
    (with_reducible refine (c1 _).mono ?_)
    rintro e w2 ⟨rfl, hB2⟩
    have hq2 := hB1.trans (hB2.mono hB1.size)
    have hq3 := hq2.alloc hq2.size (.cells #[.int .i64 p.step, .int .i64 p.watch, .int .i64 p.panic, .int .i64 p.maxrate, .int .i64 p.phi, .int .i64 p.maxdist, .int .i64 p.gate, .int .i64 6, .int .i64 10, .int .i64 0, .int .i64 p.minsane, .int .i64 p.minleft] 26)
    have hp3 := heap_alloc_new w2 (.cells #[.int .i64 p.step, .int .i64 p.watch, .int .i64 p.panic, .int .i64 p.maxrate, .int .i64 p.phi, .int .i64 p.maxdist, .int .i64 p.gate, .int .i64 6, .int .i64 10, .int .i64 0, .int .i64 p.minsane, .int .i64 p.minleft] 26)
    go_upto_region 4 with fail
    generalize w2.alloc (.cells #[.int .i64 p.step, .int .i64 p.watch, .int .i64 p.panic, .int .i64 p.maxrate, .int .i64 p.phi, .int .i64 p.maxdist, .int .i64 p.gate, .int .i64 6, .int .i64 10, .int .i64 0, .int .i64 p.minsane, .int .i64 p.minleft] 26) = w3 at *
    have hwp := hq2.size
    generalize w2.heap.size = bp at *
    obtain ⟨q0, q1, q2, q3, q4, q5, q6, q7, q8, q9, q10, q11⟩ := twelve_at hp3
    clear hB1 hB2 hq2
    go_wp2_with fail
    (with_reducible refine (c2 _).mono ?_)
    rintro e w4 ⟨rfl, hB4⟩
    have hq4 := hq3.trans (hB4.mono hq3.size)
    have hp4 := kept hp3 hB4
    have hlp := (Array.getElem?_eq_some_iff.1 hp4).1
    have hq5 := hq4.alloc hq4.size (.cells #[.int .u8 s0.reg, .int .i64 s0.host, .int .i64 s0.peer, .int .i64 s0.burst, .int .i64 s0.next] 23)
    have hp5 := laid (.cells #[.int .u8 s0.reg, .int .i64 s0.host, .int .i64 s0.peer, .int .i64 s0.burst, .int .i64 s0.next] 23) hp4
    have hs5 := heap_alloc_new w4 (.cells #[.int .u8 s0.reg, .int .i64 s0.host, .int .i64 s0.peer, .int .i64 s0.burst, .int .i64 s0.next] 23)
    clear q0 q1 q2 q3 q4 q5 q6 q7 q8 q9 q10 q11 hp3 hB4 hq3 hp4
    go_upto_region 5 with fail
    generalize w4.alloc (.cells #[.int .u8 s0.reg, .int .i64 s0.host, .int .i64 s0.peer, .int .i64 s0.burst, .int .i64 s0.next] 23) = w5 at *
    have hwb := hq4.size
    generalize w4.heap.size = bs at *
    have hne : bp ≠ bs := by omega
    clear hq4 hlp c1 c2 c3 w1 w2 w3 w4
    go_wp2_with fail
    go_loopw [7] (fun i wr => ∃ (j : Nat) (s : Rs), j ≤ z.length ∧ i = .int .i64 j ∧ CntAt (regZ z j) j s ∧ wr.heap[bp]? = some (.cells #[.int .i64 p.step, .int .i64 p.watch, .int .i64 p.panic, .int .i64 p.maxrate, .int .i64 p.phi, .int .i64 p.maxdist, .int .i64 p.gate, .int .i64 6, .int .i64 10, .int .i64 0, .int .i64 p.minsane, .int .i64 p.minleft] 26 (0, 0)) ∧ wr.heap[bs]? = some (.cells #[.int .u8 s.reg, .int .i64 s.host, .int .i64 s.peer, .int .i64 s.burst, .int .i64 s.next] 23 (0, 0)) ∧ Below w.heap.size w wr) (fun i _ => z.length - (intOf i).toNat)
    case atStart => exact ⟨0, s0, Nat.zero_le _, rfl, KK.out, hp5, hs5, hq5⟩
    case round =>
      obtain ⟨j, s, hj, rfl, K, hp, hs, hq⟩ := hrel
      clear hp5 hs5 hq5
      by_cases hlt : j < z.length
      · obtain ⟨y, hy, hym⟩ := at_index z j hlt
        rcases IV.out with ⟨_, _, _, _, rfl⟩ | ⟨b, off, cap, hv, hbl, hc⟩
        · simp at hlt
        · simp only [Value.slice.injEq] at hv
          obtain ⟨rfl, _, rfl⟩ := hv
          have H := HH.out
          have y1 := hsent_any p H.typed s (K.typed (by omega)) s.next 0 (K.typed (by omega)).next.1 (K.typed (by omega)).next.2 (by decide) (by decide)
          have K1 := cnt_sent H K (by omega)
          generalize sentS p s s.next 0 = s1 at *
          have hreg : regZ z (j + 1) = regZ z j * 2 % 256 + bitZ z j := rfl
          have heb : bitZ z j = if y = true then 1 else 0 := by
            unfold bitZ
            rw [hy]
            cases y <;> rfl
          have hr0 := reg_in z j
          have i0 : (0 : Int) ≤ (j : Int) := by omega
          have i1 : (j : Int) < (z.length : Int) := by omega
          have hcj : w.cell? ⟨b, off + j, none⟩ = some (.bool y) := by
            have := hc j y hy 0 _ rfl
            rw [Nat.mul_one, Nat.add_zero] at this
            exact this
          unfold Pm.val Rs.val at y1
          rw [H.minpoll, H.maxpoll, H.burst] at y1
          obtain ⟨q0, q1, q2, q3, q4, q5, q6, q7, q8, q9, q10, q11⟩ := twelve_at hp
          obtain ⟨r0, r1, r2, r3, r4⟩ := five_in hs
          have fr := five_thaw hs
          go_wp2_with fail
          (with_reducible refine (y1 _).mono ?_)
          rintro e wa ⟨rfl, hBwa⟩
          clear r0 r1 r2 r3 r4 fr q0 q1 q2 q3 q4 q5 q6 q7 q8 q9 q10 q11
          have hpwa := kept hp hBwa
          have hswa := kept hs hBwa
          have hqwa := hq.trans (hBwa.mono hq.size)
          have hsB := five_block (.int .u8 s1.reg) (.int .i64 s1.host) (.int .i64 s1.peer) (.int .i64 s1.burst) (.int .i64 s1.next) hswa
          have hpB := (five_far (.int .u8 s1.reg) (.int .i64 s1.host) (.int .i64 s1.peer) (.int .i64 s1.burst) (.int .i64 s1.next) hne).trans hpwa
          have hqB := five_below (.int .u8 s1.reg) (.int .i64 s1.host) (.int .i64 s1.peer) (.int .i64 s1.burst) (.int .i64 s1.next) hqwa hwb
          obtain ⟨r0, r1, r2, r3, r4⟩ := five_in hswa
          have fr := five_thaw hswa
          have E := Lib.hid (And.intro hsB (And.intro hpB hqB))
          clear hsB hpB hqB hp hs hq hpwa hswa hqwa hBwa
          unfold five at E
          go_upto_region 9 with fail
          change Code.wp _ _ _ _ (five wa bs (.int .u8 s1.reg) (.int .i64 s1.host) (.int .i64 s1.peer) (.int .i64 s1.burst) (.int .i64 s1.next))
          obtain ⟨hsB, hpB, hqB⟩ := E.out
          change (five wa bs (.int .u8 s1.reg) (.int .i64 s1.host) (.int .i64 s1.peer) (.int .i64 s1.burst) (.int .i64 s1.next)).heap[bs]? = _ at hsB
          change (five wa bs (.int .u8 s1.reg) (.int .i64 s1.host) (.int .i64 s1.peer) (.int .i64 s1.burst) (.int .i64 s1.next)).heap[bp]? = _ at hpB
          change Below _ _ (five wa bs (.int .u8 s1.reg) (.int .i64 s1.host) (.int .i64 s1.peer) (.int .i64 s1.burst) (.int .i64 s1.next)) at hqB
          clear E r0 r1 r2 r3 r4 fr
          generalize five wa bs (.int .u8 s1.reg) (.int .i64 s1.host) (.int .i64 s1.peer) (.int .i64 s1.burst) (.int .i64 s1.next) = wb at *
          have cw := ((bcell hqB).1 b _ hbl).trans hcj
          cases y
          · have K9 : CntAt (regZ z (j + 1)) (j + 1) s1 := cnt_to K1 (by rw [hreg, heb]; simp)
            clear hy hreg heb hcj K1 K y1
            rcases Nat.lt_trichotomy 7 j with h7 | h7 | h7
            · have h7i : (7 : Int) < (j : Int) := by omega
              have hle : cntZ z (j - 7) (j + 1 - (j - 7)) ≤ 208 := by
                have := (cnt_in z (j - 7) (j + 1 - (j - 7))).2
                omega
              have y5 := hans_any s1 (K9.typed (by omega))
              rw [ans_cnt z j s1 K9.reg] at y5
              unfold Rs.val at y5
              go_wp2_with fail
              go_loopw [8, 9] (fun n k wt => ∃ m : Nat, m ≤ j + 1 - (j - 7) ∧ n = .int .i64 (cntZ z (j - 7) m) ∧ k = .int .i64 ((j - 7 + m : Nat) : Int) ∧ wt = wb) (fun _ k _ => j + 1 - (intOf k).toNat)
              case atStart => exact ⟨0, Nat.zero_le _, rfl, congrArg (Value.int .i64) (by omega), rfl⟩
              case round =>
                obtain ⟨m, hm, rfl, rfl, rfl⟩ := hrel
                have c0 := cnt_in z (j - 7) m
                by_cases hk : m < j + 1 - (j - 7)
                · obtain ⟨y', hy', _⟩ := at_index z (j - 7 + m) (by omega)
                  have cw' : wr.cell? ⟨b, off + (j - 7 + m), none⟩ = some (.bool y') := by
                    have := hc (j - 7 + m) y' hy' 0 _ rfl
                    rw [Nat.mul_one, Nat.add_zero] at this
                    exact ((bcell hqB).1 b _ hbl).trans this
                  have g0 : (0 : Int) ≤ ((j - 7 + m : Nat) : Int) := by omega
                  have g1 : ((j - 7 + m : Nat) : Int) < (z.length : Int) := by omega
                  have g2 : ((j - 7 + m : Nat) : Int) ≤ (j : Int) := by omega
                  have es : cntZ z (j - 7) (m + 1) = cntZ z (j - 7) m + bitZ z (j - 7 + m) := rfl
                  have eb : bitZ z (j - 7 + m) = if y' = true then 1 else 0 := by
                    unfold bitZ
                    rw [hy']
                    cases y' <;> rfl
                  rw [eb] at es
                  have ES := Lib.hid es
                  generalize hkk : j - 7 + m = kk at *
                  generalize cntZ z (j - 7) m = cc at *
                  clear es eb hy'
                  have mle : (m : Int) ≤ 208 := by omega
                  cases y'
                  · go_wp2_with fail
                    go_roundw
                    case rel => exact ⟨m + 1, by omega, by rw [ES.out]; simp, by go_num, by first | trivial | rfl⟩
                    case measure => simp [intOf]; omega
                  · go_wp2_with fail
                    go_roundw
                    case rel => exact ⟨m + 1, by omega, by rw [ES.out]; go_num, by go_num, by first | trivial | rfl⟩
                    case measure => simp [intOf]; omega
                · obtain rfl : m = j + 1 - (j - 7) := by omega
                  have g2 : ¬ ((j - 7 + (j + 1 - (j - 7)) : Nat) : Int) ≤ (j : Int) := by omega
                  obtain ⟨r0, r1, r2, r3, r4⟩ := five_in hsB
                  generalize cntZ z (j - 7) (j + 1 - (j - 7)) = cc at *
                  go_wp2_with fail
                  (with_reducible refine (y5 _).mono ?_)
                  rintro e wz ⟨rfl, hBz⟩
                  have hpz := kept hpB hBz
                  have hsz := kept hsB hBz
                  have hqz := hqB.trans (hBz.mono hqB.size)
                  clear r0 r1 r2 r3 r4 hpB hsB hqB hBz
                  go_wp2_with fail
                  go_roundw
                  case rel => exact ⟨j + 1, s1, by omega, by go_num, K9, hpz, hsz, hqz⟩
                  case measure => simp [intOf]; omega
            · have h7i : (j : Int) = 7 := by omega
              have hle : cntZ z (j - 7) (j + 1 - (j - 7)) ≤ 208 := by
                have := (cnt_in z (j - 7) (j + 1 - (j - 7))).2
                omega
              have y5 := hans_any s1 (K9.typed (by omega))
              rw [ans_cnt z j s1 K9.reg] at y5
              unfold Rs.val at y5
              go_wp2_with fail
              go_loopw [8, 9] (fun n k wt => ∃ m : Nat, m ≤ j + 1 - (j - 7) ∧ n = .int .i64 (cntZ z (j - 7) m) ∧ k = .int .i64 ((j - 7 + m : Nat) : Int) ∧ wt = wb) (fun _ k _ => j + 1 - (intOf k).toNat)
              case atStart => exact ⟨0, Nat.zero_le _, rfl, congrArg (Value.int .i64) (by omega), rfl⟩
              case round =>
                obtain ⟨m, hm, rfl, rfl, rfl⟩ := hrel
                have c0 := cnt_in z (j - 7) m
                by_cases hk : m < j + 1 - (j - 7)
                · obtain ⟨y', hy', _⟩ := at_index z (j - 7 + m) (by omega)
                  have cw' : wr.cell? ⟨b, off + (j - 7 + m), none⟩ = some (.bool y') := by
                    have := hc (j - 7 + m) y' hy' 0 _ rfl
                    rw [Nat.mul_one, Nat.add_zero] at this
                    exact ((bcell hqB).1 b _ hbl).trans this
                  have g0 : (0 : Int) ≤ ((j - 7 + m : Nat) : Int) := by omega
                  have g1 : ((j - 7 + m : Nat) : Int) < (z.length : Int) := by omega
                  have g2 : ((j - 7 + m : Nat) : Int) ≤ (j : Int) := by omega
                  have es : cntZ z (j - 7) (m + 1) = cntZ z (j - 7) m + bitZ z (j - 7 + m) := rfl
                  have eb : bitZ z (j - 7 + m) = if y' = true then 1 else 0 := by
                    unfold bitZ
                    rw [hy']
                    cases y' <;> rfl
                  rw [eb] at es
                  have ES := Lib.hid es
                  generalize hkk : j - 7 + m = kk at *
                  generalize cntZ z (j - 7) m = cc at *
                  clear es eb hy'
                  have mle : (m : Int) ≤ 208 := by omega
                  cases y'
                  · go_wp2_with fail
                    go_roundw
                    case rel => exact ⟨m + 1, by omega, by rw [ES.out]; simp, by go_num, by first | trivial | rfl⟩
                    case measure => simp [intOf]; omega
                  · go_wp2_with fail
                    go_roundw
                    case rel => exact ⟨m + 1, by omega, by rw [ES.out]; go_num, by go_num, by first | trivial | rfl⟩
                    case measure => simp [intOf]; omega
                · obtain rfl : m = j + 1 - (j - 7) := by omega
                  have g2 : ¬ ((j - 7 + (j + 1 - (j - 7)) : Nat) : Int) ≤ (j : Int) := by omega
                  obtain ⟨r0, r1, r2, r3, r4⟩ := five_in hsB
                  generalize cntZ z (j - 7) (j + 1 - (j - 7)) = cc at *
                  go_wp2_with fail
                  (with_reducible refine (y5 _).mono ?_)
                  rintro e wz ⟨rfl, hBz⟩
                  have hpz := kept hpB hBz
                  have hsz := kept hsB hBz
                  have hqz := hqB.trans (hBz.mono hqB.size)
                  clear r0 r1 r2 r3 r4 hpB hsB hqB hBz
                  go_wp2_with fail
                  go_roundw
                  case rel => exact ⟨j + 1, s1, by omega, by go_num, K9, hpz, hsz, hqz⟩
                  case measure => simp [intOf]; omega
            · have h7i : (j : Int) < 7 := by omega
              have hle : cntZ z (j - 7) (j + 1 - (j - 7)) ≤ 208 := by
                have := (cnt_in z (j - 7) (j + 1 - (j - 7))).2
                omega
              have y5 := hans_any s1 (K9.typed (by omega))
              rw [ans_cnt z j s1 K9.reg] at y5
              unfold Rs.val at y5
              go_wp2_with fail
              go_loopw [8, 9] (fun n k wt => ∃ m : Nat, m ≤ j + 1 - (j - 7) ∧ n = .int .i64 (cntZ z (j - 7) m) ∧ k = .int .i64 ((j - 7 + m : Nat) : Int) ∧ wt = wb) (fun _ k _ => j + 1 - (intOf k).toNat)
              case atStart => exact ⟨0, Nat.zero_le _, rfl, congrArg (Value.int .i64) (by omega), rfl⟩
              case round =>
                obtain ⟨m, hm, rfl, rfl, rfl⟩ := hrel
                have c0 := cnt_in z (j - 7) m
                by_cases hk : m < j + 1 - (j - 7)
                · obtain ⟨y', hy', _⟩ := at_index z (j - 7 + m) (by omega)
                  have cw' : wr.cell? ⟨b, off + (j - 7 + m), none⟩ = some (.bool y') := by
                    have := hc (j - 7 + m) y' hy' 0 _ rfl
                    rw [Nat.mul_one, Nat.add_zero] at this
                    exact ((bcell hqB).1 b _ hbl).trans this
                  have g0 : (0 : Int) ≤ ((j - 7 + m : Nat) : Int) := by omega
                  have g1 : ((j - 7 + m : Nat) : Int) < (z.length : Int) := by omega
                  have g2 : ((j - 7 + m : Nat) : Int) ≤ (j : Int) := by omega
                  have es : cntZ z (j - 7) (m + 1) = cntZ z (j - 7) m + bitZ z (j - 7 + m) := rfl
                  have eb : bitZ z (j - 7 + m) = if y' = true then 1 else 0 := by
                    unfold bitZ
                    rw [hy']
                    cases y' <;> rfl
                  rw [eb] at es
                  have ES := Lib.hid es
                  generalize hkk : j - 7 + m = kk at *
                  generalize cntZ z (j - 7) m = cc at *
                  clear es eb hy'
                  have mle : (m : Int) ≤ 208 := by omega
                  cases y'
                  · go_wp2_with fail
                    go_roundw
                    case rel => exact ⟨m + 1, by omega, by rw [ES.out]; simp, by go_num, by first | trivial | rfl⟩
                    case measure => simp [intOf]; omega
                  · go_wp2_with fail
                    go_roundw
                    case rel => exact ⟨m + 1, by omega, by rw [ES.out]; go_num, by go_num, by first | trivial | rfl⟩
                    case measure => simp [intOf]; omega
                · obtain rfl : m = j + 1 - (j - 7) := by omega
                  have g2 : ¬ ((j - 7 + (j + 1 - (j - 7)) : Nat) : Int) ≤ (j : Int) := by omega
                  obtain ⟨r0, r1, r2, r3, r4⟩ := five_in hsB
                  generalize cntZ z (j - 7) (j + 1 - (j - 7)) = cc at *
                  go_wp2_with fail
                  (with_reducible refine (y5 _).mono ?_)
                  rintro e wz ⟨rfl, hBz⟩
                  have hpz := kept hpB hBz
                  have hsz := kept hsB hBz
                  have hqz := hqB.trans (hBz.mono hqB.size)
                  clear r0 r1 r2 r3 r4 hpB hsB hqB hBz
                  go_wp2_with fail
                  go_roundw
                  case rel => exact ⟨j + 1, s1, by omega, by go_num, K9, hpz, hsz, hqz⟩
                  case measure => simp [intOf]; omega
          · have K2 := cnt_to (r' := regZ z (j + 1)) (cnt_heard H K1 6) (by rw [hreg, heb, if_pos (by omega)]; simp)
            have y2 := hheard_any p H.typed s1 (K1.typed (by omega)) 6 (by decide) (by decide)
            generalize heardS p s1 6 = s2 at *
            have K3 := cnt_to (r' := regZ z (j + 1)) (cnt_heard H K2 7) (by rw [if_neg]; rw [hreg, heb]; simp; omega)
            have y3 := hheard_any p H.typed s2 (K2.typed (by omega)) 7 (by decide) (by decide)
            generalize heardS p s2 7 = s3 at *
            unfold Pm.val Rs.val at y2 y3
            rw [H.minpoll, H.maxpoll, H.burst] at y2 y3
            clear hy hreg heb hcj K1 K y1
            obtain ⟨q0, q1, q2, q3, q4, q5, q6, q7, q8, q9, q10, q11⟩ := twelve_at hpB
            obtain ⟨r0, r1, r2, r3, r4⟩ := five_in hsB
            have fr := five_thaw hsB
            go_wp2_with fail
            (with_reducible refine (y2 _).mono ?_)
            rintro e wc ⟨rfl, hBwc⟩
            clear r0 r1 r2 r3 r4 fr q0 q1 q2 q3 q4 q5 q6 q7 q8 q9 q10 q11
            have hpwc := kept hpB hBwc
            have hswc := kept hsB hBwc
            have hqwc := hqB.trans (hBwc.mono hqB.size)
            have hsC := five_block (.int .u8 s2.reg) (.int .i64 s2.host) (.int .i64 s2.peer) (.int .i64 s2.burst) (.int .i64 s2.next) hswc
            have hpC := (five_far (.int .u8 s2.reg) (.int .i64 s2.host) (.int .i64 s2.peer) (.int .i64 s2.burst) (.int .i64 s2.next) hne).trans hpwc
            have hqC := five_below (.int .u8 s2.reg) (.int .i64 s2.host) (.int .i64 s2.peer) (.int .i64 s2.burst) (.int .i64 s2.next) hqwc hwb
            obtain ⟨r0, r1, r2, r3, r4⟩ := five_in hswc
            have fr := five_thaw hswc
            have E := Lib.hid (And.intro hsC (And.intro hpC hqC))
            clear hsC hpC hqC hpB hsB hqB hpwc hswc hqwc hBwc
            unfold five at E
            go_upto_region 11 with fail
            change Code.wp _ _ _ _ (five wc bs (.int .u8 s2.reg) (.int .i64 s2.host) (.int .i64 s2.peer) (.int .i64 s2.burst) (.int .i64 s2.next))
            obtain ⟨hsC, hpC, hqC⟩ := E.out
            change (five wc bs (.int .u8 s2.reg) (.int .i64 s2.host) (.int .i64 s2.peer) (.int .i64 s2.burst) (.int .i64 s2.next)).heap[bs]? = _ at hsC
            change (five wc bs (.int .u8 s2.reg) (.int .i64 s2.host) (.int .i64 s2.peer) (.int .i64 s2.burst) (.int .i64 s2.next)).heap[bp]? = _ at hpC
            change Below _ _ (five wc bs (.int .u8 s2.reg) (.int .i64 s2.host) (.int .i64 s2.peer) (.int .i64 s2.burst) (.int .i64 s2.next)) at hqC
            clear E r0 r1 r2 r3 r4 fr
            generalize five wc bs (.int .u8 s2.reg) (.int .i64 s2.host) (.int .i64 s2.peer) (.int .i64 s2.burst) (.int .i64 s2.next) = wd at *
            cases tw
            · have K9 := K2
              clear K2 K3 y2 y3
              rcases Nat.lt_trichotomy 7 j with h7 | h7 | h7
              · have h7i : (7 : Int) < (j : Int) := by omega
                have hle : cntZ z (j - 7) (j + 1 - (j - 7)) ≤ 208 := by
                  have := (cnt_in z (j - 7) (j + 1 - (j - 7))).2
                  omega
                have y5 := hans_any s2 (K9.typed (by omega))
                rw [ans_cnt z j s2 K9.reg] at y5
                unfold Rs.val at y5
                go_wp2_with fail
                go_loopw [8, 9] (fun n k wt => ∃ m : Nat, m ≤ j + 1 - (j - 7) ∧ n = .int .i64 (cntZ z (j - 7) m) ∧ k = .int .i64 ((j - 7 + m : Nat) : Int) ∧ wt = wd) (fun _ k _ => j + 1 - (intOf k).toNat)
                case atStart => exact ⟨0, Nat.zero_le _, rfl, congrArg (Value.int .i64) (by omega), rfl⟩
                case round =>
                  obtain ⟨m, hm, rfl, rfl, rfl⟩ := hrel
                  have c0 := cnt_in z (j - 7) m
                  by_cases hk : m < j + 1 - (j - 7)
                  · obtain ⟨y', hy', _⟩ := at_index z (j - 7 + m) (by omega)
                    have cw' : wr.cell? ⟨b, off + (j - 7 + m), none⟩ = some (.bool y') := by
                      have := hc (j - 7 + m) y' hy' 0 _ rfl
                      rw [Nat.mul_one, Nat.add_zero] at this
                      exact ((bcell hqC).1 b _ hbl).trans this
                    have g0 : (0 : Int) ≤ ((j - 7 + m : Nat) : Int) := by omega
                    have g1 : ((j - 7 + m : Nat) : Int) < (z.length : Int) := by omega
                    have g2 : ((j - 7 + m : Nat) : Int) ≤ (j : Int) := by omega
                    have es : cntZ z (j - 7) (m + 1) = cntZ z (j - 7) m + bitZ z (j - 7 + m) := rfl
                    have eb : bitZ z (j - 7 + m) = if y' = true then 1 else 0 := by
                      unfold bitZ
                      rw [hy']
                      cases y' <;> rfl
                    rw [eb] at es
                    have ES := Lib.hid es
                    generalize hkk : j - 7 + m = kk at *
                    generalize cntZ z (j - 7) m = cc at *
                    clear es eb hy'
                    have mle : (m : Int) ≤ 208 := by omega
                    cases y'
                    · go_wp2_with fail
                      go_roundw
                      case rel => exact ⟨m + 1, by omega, by rw [ES.out]; simp, by go_num, by first | trivial | rfl⟩
                      case measure => simp [intOf]; omega
                    · go_wp2_with fail
                      go_roundw
                      case rel => exact ⟨m + 1, by omega, by rw [ES.out]; go_num, by go_num, by first | trivial | rfl⟩
                      case measure => simp [intOf]; omega
                  · obtain rfl : m = j + 1 - (j - 7) := by omega
                    have g2 : ¬ ((j - 7 + (j + 1 - (j - 7)) : Nat) : Int) ≤ (j : Int) := by omega
                    obtain ⟨r0, r1, r2, r3, r4⟩ := five_in hsC
                    generalize cntZ z (j - 7) (j + 1 - (j - 7)) = cc at *
                    go_wp2_with fail
                    (with_reducible refine (y5 _).mono ?_)
                    rintro e wz ⟨rfl, hBz⟩
                    have hpz := kept hpC hBz
                    have hsz := kept hsC hBz
                    have hqz := hqC.trans (hBz.mono hqC.size)
                    clear r0 r1 r2 r3 r4 hpC hsC hqC hBz
                    go_wp2_with fail
                    go_roundw
                    case rel => exact ⟨j + 1, s2, by omega, by go_num, K9, hpz, hsz, hqz⟩
                    case measure => simp [intOf]; omega
              · have h7i : (j : Int) = 7 := by omega
                have hle : cntZ z (j - 7) (j + 1 - (j - 7)) ≤ 208 := by
                  have := (cnt_in z (j - 7) (j + 1 - (j - 7))).2
                  omega
                have y5 := hans_any s2 (K9.typed (by omega))
                rw [ans_cnt z j s2 K9.reg] at y5
                unfold Rs.val at y5
                go_wp2_with fail
                go_loopw [8, 9] (fun n k wt => ∃ m : Nat, m ≤ j + 1 - (j - 7) ∧ n = .int .i64 (cntZ z (j - 7) m) ∧ k = .int .i64 ((j - 7 + m : Nat) : Int) ∧ wt = wd) (fun _ k _ => j + 1 - (intOf k).toNat)
                case atStart => exact ⟨0, Nat.zero_le _, rfl, congrArg (Value.int .i64) (by omega), rfl⟩
                case round =>
                  obtain ⟨m, hm, rfl, rfl, rfl⟩ := hrel
                  have c0 := cnt_in z (j - 7) m
                  by_cases hk : m < j + 1 - (j - 7)
                  · obtain ⟨y', hy', _⟩ := at_index z (j - 7 + m) (by omega)
                    have cw' : wr.cell? ⟨b, off + (j - 7 + m), none⟩ = some (.bool y') := by
                      have := hc (j - 7 + m) y' hy' 0 _ rfl
                      rw [Nat.mul_one, Nat.add_zero] at this
                      exact ((bcell hqC).1 b _ hbl).trans this
                    have g0 : (0 : Int) ≤ ((j - 7 + m : Nat) : Int) := by omega
                    have g1 : ((j - 7 + m : Nat) : Int) < (z.length : Int) := by omega
                    have g2 : ((j - 7 + m : Nat) : Int) ≤ (j : Int) := by omega
                    have es : cntZ z (j - 7) (m + 1) = cntZ z (j - 7) m + bitZ z (j - 7 + m) := rfl
                    have eb : bitZ z (j - 7 + m) = if y' = true then 1 else 0 := by
                      unfold bitZ
                      rw [hy']
                      cases y' <;> rfl
                    rw [eb] at es
                    have ES := Lib.hid es
                    generalize hkk : j - 7 + m = kk at *
                    generalize cntZ z (j - 7) m = cc at *
                    clear es eb hy'
                    have mle : (m : Int) ≤ 208 := by omega
                    cases y'
                    · go_wp2_with fail
                      go_roundw
                      case rel => exact ⟨m + 1, by omega, by rw [ES.out]; simp, by go_num, by first | trivial | rfl⟩
                      case measure => simp [intOf]; omega
                    · go_wp2_with fail
                      go_roundw
                      case rel => exact ⟨m + 1, by omega, by rw [ES.out]; go_num, by go_num, by first | trivial | rfl⟩
                      case measure => simp [intOf]; omega
                  · obtain rfl : m = j + 1 - (j - 7) := by omega
                    have g2 : ¬ ((j - 7 + (j + 1 - (j - 7)) : Nat) : Int) ≤ (j : Int) := by omega
                    obtain ⟨r0, r1, r2, r3, r4⟩ := five_in hsC
                    generalize cntZ z (j - 7) (j + 1 - (j - 7)) = cc at *
                    go_wp2_with fail
                    (with_reducible refine (y5 _).mono ?_)
                    rintro e wz ⟨rfl, hBz⟩
                    have hpz := kept hpC hBz
                    have hsz := kept hsC hBz
                    have hqz := hqC.trans (hBz.mono hqC.size)
                    clear r0 r1 r2 r3 r4 hpC hsC hqC hBz
                    go_wp2_with fail
                    go_roundw
                    case rel => exact ⟨j + 1, s2, by omega, by go_num, K9, hpz, hsz, hqz⟩
                    case measure => simp [intOf]; omega
              · have h7i : (j : Int) < 7 := by omega
                have hle : cntZ z (j - 7) (j + 1 - (j - 7)) ≤ 208 := by
                  have := (cnt_in z (j - 7) (j + 1 - (j - 7))).2
                  omega
                have y5 := hans_any s2 (K9.typed (by omega))
                rw [ans_cnt z j s2 K9.reg] at y5
                unfold Rs.val at y5
                go_wp2_with fail
                go_loopw [8, 9] (fun n k wt => ∃ m : Nat, m ≤ j + 1 - (j - 7) ∧ n = .int .i64 (cntZ z (j - 7) m) ∧ k = .int .i64 ((j - 7 + m : Nat) : Int) ∧ wt = wd) (fun _ k _ => j + 1 - (intOf k).toNat)
                case atStart => exact ⟨0, Nat.zero_le _, rfl, congrArg (Value.int .i64) (by omega), rfl⟩
                case round =>
                  obtain ⟨m, hm, rfl, rfl, rfl⟩ := hrel
                  have c0 := cnt_in z (j - 7) m
                  by_cases hk : m < j + 1 - (j - 7)
                  · obtain ⟨y', hy', _⟩ := at_index z (j - 7 + m) (by omega)
                    have cw' : wr.cell? ⟨b, off + (j - 7 + m), none⟩ = some (.bool y') := by
                      have := hc (j - 7 + m) y' hy' 0 _ rfl
                      rw [Nat.mul_one, Nat.add_zero] at this
                      exact ((bcell hqC).1 b _ hbl).trans this
                    have g0 : (0 : Int) ≤ ((j - 7 + m : Nat) : Int) := by omega
                    have g1 : ((j - 7 + m : Nat) : Int) < (z.length : Int) := by omega
                    have g2 : ((j - 7 + m : Nat) : Int) ≤ (j : Int) := by omega
                    have es : cntZ z (j - 7) (m + 1) = cntZ z (j - 7) m + bitZ z (j - 7 + m) := rfl
                    have eb : bitZ z (j - 7 + m) = if y' = true then 1 else 0 := by
                      unfold bitZ
                      rw [hy']
                      cases y' <;> rfl
                    rw [eb] at es
                    have ES := Lib.hid es
                    generalize hkk : j - 7 + m = kk at *
                    generalize cntZ z (j - 7) m = cc at *
                    clear es eb hy'
                    have mle : (m : Int) ≤ 208 := by omega
                    cases y'
                    · go_wp2_with fail
                      go_roundw
                      case rel => exact ⟨m + 1, by omega, by rw [ES.out]; simp, by go_num, by first | trivial | rfl⟩
                      case measure => simp [intOf]; omega
                    · go_wp2_with fail
                      go_roundw
                      case rel => exact ⟨m + 1, by omega, by rw [ES.out]; go_num, by go_num, by first | trivial | rfl⟩
                      case measure => simp [intOf]; omega
                  · obtain rfl : m = j + 1 - (j - 7) := by omega
                    have g2 : ¬ ((j - 7 + (j + 1 - (j - 7)) : Nat) : Int) ≤ (j : Int) := by omega
                    obtain ⟨r0, r1, r2, r3, r4⟩ := five_in hsC
                    generalize cntZ z (j - 7) (j + 1 - (j - 7)) = cc at *
                    go_wp2_with fail
                    (with_reducible refine (y5 _).mono ?_)
                    rintro e wz ⟨rfl, hBz⟩
                    have hpz := kept hpC hBz
                    have hsz := kept hsC hBz
                    have hqz := hqC.trans (hBz.mono hqC.size)
                    clear r0 r1 r2 r3 r4 hpC hsC hqC hBz
                    go_wp2_with fail
                    go_roundw
                    case rel => exact ⟨j + 1, s2, by omega, by go_num, K9, hpz, hsz, hqz⟩
                    case measure => simp [intOf]; omega
            · obtain ⟨q0, q1, q2, q3, q4, q5, q6, q7, q8, q9, q10, q11⟩ := twelve_at hpC
              obtain ⟨r0, r1, r2, r3, r4⟩ := five_in hsC
              have fr := five_thaw hsC
              go_wp2_with fail
              (with_reducible refine (y3 _).mono ?_)
              rintro e we ⟨rfl, hBwe⟩
              clear r0 r1 r2 r3 r4 fr q0 q1 q2 q3 q4 q5 q6 q7 q8 q9 q10 q11
              have hpwe := kept hpC hBwe
              have hswe := kept hsC hBwe
              have hqwe := hqC.trans (hBwe.mono hqC.size)
              have hsD := five_block (.int .u8 s3.reg) (.int .i64 s3.host) (.int .i64 s3.peer) (.int .i64 s3.burst) (.int .i64 s3.next) hswe
              have hpD := (five_far (.int .u8 s3.reg) (.int .i64 s3.host) (.int .i64 s3.peer) (.int .i64 s3.burst) (.int .i64 s3.next) hne).trans hpwe
              have hqD := five_below (.int .u8 s3.reg) (.int .i64 s3.host) (.int .i64 s3.peer) (.int .i64 s3.burst) (.int .i64 s3.next) hqwe hwb
              obtain ⟨r0, r1, r2, r3, r4⟩ := five_in hswe
              have fr := five_thaw hswe
              have E := Lib.hid (And.intro hsD (And.intro hpD hqD))
              clear hsD hpD hqD hpC hsC hqC hpwe hswe hqwe hBwe
              unfold five at E
              go_upto_region 13 with fail
              change Code.wp _ _ _ _ (five we bs (.int .u8 s3.reg) (.int .i64 s3.host) (.int .i64 s3.peer) (.int .i64 s3.burst) (.int .i64 s3.next))
              obtain ⟨hsD, hpD, hqD⟩ := E.out
              change (five we bs (.int .u8 s3.reg) (.int .i64 s3.host) (.int .i64 s3.peer) (.int .i64 s3.burst) (.int .i64 s3.next)).heap[bs]? = _ at hsD
              change (five we bs (.int .u8 s3.reg) (.int .i64 s3.host) (.int .i64 s3.peer) (.int .i64 s3.burst) (.int .i64 s3.next)).heap[bp]? = _ at hpD
              change Below _ _ (five we bs (.int .u8 s3.reg) (.int .i64 s3.host) (.int .i64 s3.peer) (.int .i64 s3.burst) (.int .i64 s3.next)) at hqD
              clear E r0 r1 r2 r3 r4 fr
              generalize five we bs (.int .u8 s3.reg) (.int .i64 s3.host) (.int .i64 s3.peer) (.int .i64 s3.burst) (.int .i64 s3.next) = wf at *
              have K9 := K3
              clear K2 K3 y2 y3
              rcases Nat.lt_trichotomy 7 j with h7 | h7 | h7
              · have h7i : (7 : Int) < (j : Int) := by omega
                have hle : cntZ z (j - 7) (j + 1 - (j - 7)) ≤ 208 := by
                  have := (cnt_in z (j - 7) (j + 1 - (j - 7))).2
                  omega
                have y5 := hans_any s3 (K9.typed (by omega))
                rw [ans_cnt z j s3 K9.reg] at y5
                unfold Rs.val at y5
                go_wp2_with fail
                go_loopw [8, 9] (fun n k wt => ∃ m : Nat, m ≤ j + 1 - (j - 7) ∧ n = .int .i64 (cntZ z (j - 7) m) ∧ k = .int .i64 ((j - 7 + m : Nat) : Int) ∧ wt = wf) (fun _ k _ => j + 1 - (intOf k).toNat)
                case atStart => exact ⟨0, Nat.zero_le _, rfl, congrArg (Value.int .i64) (by omega), rfl⟩
                case round =>
                  obtain ⟨m, hm, rfl, rfl, rfl⟩ := hrel
                  have c0 := cnt_in z (j - 7) m
                  by_cases hk : m < j + 1 - (j - 7)
                  · obtain ⟨y', hy', _⟩ := at_index z (j - 7 + m) (by omega)
                    have cw' : wr.cell? ⟨b, off + (j - 7 + m), none⟩ = some (.bool y') := by
                      have := hc (j - 7 + m) y' hy' 0 _ rfl
                      rw [Nat.mul_one, Nat.add_zero] at this
                      exact ((bcell hqD).1 b _ hbl).trans this
                    have g0 : (0 : Int) ≤ ((j - 7 + m : Nat) : Int) := by omega
                    have g1 : ((j - 7 + m : Nat) : Int) < (z.length : Int) := by omega
                    have g2 : ((j - 7 + m : Nat) : Int) ≤ (j : Int) := by omega
                    have es : cntZ z (j - 7) (m + 1) = cntZ z (j - 7) m + bitZ z (j - 7 + m) := rfl
                    have eb : bitZ z (j - 7 + m) = if y' = true then 1 else 0 := by
                      unfold bitZ
                      rw [hy']
                      cases y' <;> rfl
                    rw [eb] at es
                    have ES := Lib.hid es
                    generalize hkk : j - 7 + m = kk at *
                    generalize cntZ z (j - 7) m = cc at *
                    clear es eb hy'
                    have mle : (m : Int) ≤ 208 := by omega
                    cases y'
                    · go_wp2_with fail
                      go_roundw
                      case rel => exact ⟨m + 1, by omega, by rw [ES.out]; simp, by go_num, by first | trivial | rfl⟩
                      case measure => simp [intOf]; omega
                    · go_wp2_with fail
                      go_roundw
                      case rel => exact ⟨m + 1, by omega, by rw [ES.out]; go_num, by go_num, by first | trivial | rfl⟩
                      case measure => simp [intOf]; omega
                  · obtain rfl : m = j + 1 - (j - 7) := by omega
                    have g2 : ¬ ((j - 7 + (j + 1 - (j - 7)) : Nat) : Int) ≤ (j : Int) := by omega
                    obtain ⟨r0, r1, r2, r3, r4⟩ := five_in hsD
                    generalize cntZ z (j - 7) (j + 1 - (j - 7)) = cc at *
                    go_wp2_with fail
                    (with_reducible refine (y5 _).mono ?_)
                    rintro e wz ⟨rfl, hBz⟩
                    have hpz := kept hpD hBz
                    have hsz := kept hsD hBz
                    have hqz := hqD.trans (hBz.mono hqD.size)
                    clear r0 r1 r2 r3 r4 hpD hsD hqD hBz
                    go_wp2_with fail
                    go_roundw
                    case rel => exact ⟨j + 1, s3, by omega, by go_num, K9, hpz, hsz, hqz⟩
                    case measure => simp [intOf]; omega
              · have h7i : (j : Int) = 7 := by omega
                have hle : cntZ z (j - 7) (j + 1 - (j - 7)) ≤ 208 := by
                  have := (cnt_in z (j - 7) (j + 1 - (j - 7))).2
                  omega
                have y5 := hans_any s3 (K9.typed (by omega))
                rw [ans_cnt z j s3 K9.reg] at y5
                unfold Rs.val at y5
                go_wp2_with fail
                go_loopw [8, 9] (fun n k wt => ∃ m : Nat, m ≤ j + 1 - (j - 7) ∧ n = .int .i64 (cntZ z (j - 7) m) ∧ k = .int .i64 ((j - 7 + m : Nat) : Int) ∧ wt = wf) (fun _ k _ => j + 1 - (intOf k).toNat)
                case atStart => exact ⟨0, Nat.zero_le _, rfl, congrArg (Value.int .i64) (by omega), rfl⟩
                case round =>
                  obtain ⟨m, hm, rfl, rfl, rfl⟩ := hrel
                  have c0 := cnt_in z (j - 7) m
                  by_cases hk : m < j + 1 - (j - 7)
                  · obtain ⟨y', hy', _⟩ := at_index z (j - 7 + m) (by omega)
                    have cw' : wr.cell? ⟨b, off + (j - 7 + m), none⟩ = some (.bool y') := by
                      have := hc (j - 7 + m) y' hy' 0 _ rfl
                      rw [Nat.mul_one, Nat.add_zero] at this
                      exact ((bcell hqD).1 b _ hbl).trans this
                    have g0 : (0 : Int) ≤ ((j - 7 + m : Nat) : Int) := by omega
                    have g1 : ((j - 7 + m : Nat) : Int) < (z.length : Int) := by omega
                    have g2 : ((j - 7 + m : Nat) : Int) ≤ (j : Int) := by omega
                    have es : cntZ z (j - 7) (m + 1) = cntZ z (j - 7) m + bitZ z (j - 7 + m) := rfl
                    have eb : bitZ z (j - 7 + m) = if y' = true then 1 else 0 := by
                      unfold bitZ
                      rw [hy']
                      cases y' <;> rfl
                    rw [eb] at es
                    have ES := Lib.hid es
                    generalize hkk : j - 7 + m = kk at *
                    generalize cntZ z (j - 7) m = cc at *
                    clear es eb hy'
                    have mle : (m : Int) ≤ 208 := by omega
                    cases y'
                    · go_wp2_with fail
                      go_roundw
                      case rel => exact ⟨m + 1, by omega, by rw [ES.out]; simp, by go_num, by first | trivial | rfl⟩
                      case measure => simp [intOf]; omega
                    · go_wp2_with fail
                      go_roundw
                      case rel => exact ⟨m + 1, by omega, by rw [ES.out]; go_num, by go_num, by first | trivial | rfl⟩
                      case measure => simp [intOf]; omega
                  · obtain rfl : m = j + 1 - (j - 7) := by omega
                    have g2 : ¬ ((j - 7 + (j + 1 - (j - 7)) : Nat) : Int) ≤ (j : Int) := by omega
                    obtain ⟨r0, r1, r2, r3, r4⟩ := five_in hsD
                    generalize cntZ z (j - 7) (j + 1 - (j - 7)) = cc at *
                    go_wp2_with fail
                    (with_reducible refine (y5 _).mono ?_)
                    rintro e wz ⟨rfl, hBz⟩
                    have hpz := kept hpD hBz
                    have hsz := kept hsD hBz
                    have hqz := hqD.trans (hBz.mono hqD.size)
                    clear r0 r1 r2 r3 r4 hpD hsD hqD hBz
                    go_wp2_with fail
                    go_roundw
                    case rel => exact ⟨j + 1, s3, by omega, by go_num, K9, hpz, hsz, hqz⟩
                    case measure => simp [intOf]; omega
              · have h7i : (j : Int) < 7 := by omega
                have hle : cntZ z (j - 7) (j + 1 - (j - 7)) ≤ 208 := by
                  have := (cnt_in z (j - 7) (j + 1 - (j - 7))).2
                  omega
                have y5 := hans_any s3 (K9.typed (by omega))
                rw [ans_cnt z j s3 K9.reg] at y5
                unfold Rs.val at y5
                go_wp2_with fail
                go_loopw [8, 9] (fun n k wt => ∃ m : Nat, m ≤ j + 1 - (j - 7) ∧ n = .int .i64 (cntZ z (j - 7) m) ∧ k = .int .i64 ((j - 7 + m : Nat) : Int) ∧ wt = wf) (fun _ k _ => j + 1 - (intOf k).toNat)
                case atStart => exact ⟨0, Nat.zero_le _, rfl, congrArg (Value.int .i64) (by omega), rfl⟩
                case round =>
                  obtain ⟨m, hm, rfl, rfl, rfl⟩ := hrel
                  have c0 := cnt_in z (j - 7) m
                  by_cases hk : m < j + 1 - (j - 7)
                  · obtain ⟨y', hy', _⟩ := at_index z (j - 7 + m) (by omega)
                    have cw' : wr.cell? ⟨b, off + (j - 7 + m), none⟩ = some (.bool y') := by
                      have := hc (j - 7 + m) y' hy' 0 _ rfl
                      rw [Nat.mul_one, Nat.add_zero] at this
                      exact ((bcell hqD).1 b _ hbl).trans this
                    have g0 : (0 : Int) ≤ ((j - 7 + m : Nat) : Int) := by omega
                    have g1 : ((j - 7 + m : Nat) : Int) < (z.length : Int) := by omega
                    have g2 : ((j - 7 + m : Nat) : Int) ≤ (j : Int) := by omega
                    have es : cntZ z (j - 7) (m + 1) = cntZ z (j - 7) m + bitZ z (j - 7 + m) := rfl
                    have eb : bitZ z (j - 7 + m) = if y' = true then 1 else 0 := by
                      unfold bitZ
                      rw [hy']
                      cases y' <;> rfl
                    rw [eb] at es
                    have ES := Lib.hid es
                    generalize hkk : j - 7 + m = kk at *
                    generalize cntZ z (j - 7) m = cc at *
                    clear es eb hy'
                    have mle : (m : Int) ≤ 208 := by omega
                    cases y'
                    · go_wp2_with fail
                      go_roundw
                      case rel => exact ⟨m + 1, by omega, by rw [ES.out]; simp, by go_num, by first | trivial | rfl⟩
                      case measure => simp [intOf]; omega
                    · go_wp2_with fail
                      go_roundw
                      case rel => exact ⟨m + 1, by omega, by rw [ES.out]; go_num, by go_num, by first | trivial | rfl⟩
                      case measure => simp [intOf]; omega
                  · obtain rfl : m = j + 1 - (j - 7) := by omega
                    have g2 : ¬ ((j - 7 + (j + 1 - (j - 7)) : Nat) : Int) ≤ (j : Int) := by omega
                    obtain ⟨r0, r1, r2, r3, r4⟩ := five_in hsD
                    generalize cntZ z (j - 7) (j + 1 - (j - 7)) = cc at *
                    go_wp2_with fail
                    (with_reducible refine (y5 _).mono ?_)
                    rintro e wz ⟨rfl, hBz⟩
                    have hpz := kept hpD hBz
                    have hsz := kept hsD hBz
                    have hqz := hqD.trans (hBz.mono hqD.size)
                    clear r0 r1 r2 r3 r4 hpD hsD hqD hBz
                    go_wp2_with fail
                    go_roundw
                    case rel => exact ⟨j + 1, s3, by omega, by go_num, K9, hpz, hsz, hqz⟩
                    case measure => simp [intOf]; omega
      · obtain rfl : j = z.length := by omega
        go_wp2_with fail
        go_ret
        exact ⟨rfl, hq⟩
set_option maxRecDepth 100000 in
theorem lifted (os : Os) (started : os.Started) (H : Type) (enc : TypeId × Value → H) :
    ReturnsInHanded {} Try.checked os 5 .any (Rows.reachCountsSpec.pre6 enc Try.prog Try.f5 Rows.reachCountsRow.domain false) (Rows.reachCountsSpec.post enc Try.prog Try.f5 false true false false) := by
  refine returnsInHanded_of_change (C := Try.checked) own started (by kernel_rfl) Try.func5
    (ChangeSpec.witness6 (enc := enc) (C := Try.checked) false ⟨#[], #[.slice none 0 0, .bool false], []⟩ 8 (by kernel_rfl) (by kernel_rfl) (by kernel_rfl) (by kernel_rfl)) ?_
  intro W base args ds gs before hval0 hW hcnd _
  have hval : ∀ (j : Nat) t v, Try.f5.params[j]? = some t → args[j]? = some v → Value.okWide Try.prog W .any base t v := hval0
  have hW' := hW
  obtain ⟨p, q, hA0, hV, rfl, hfz, hnd⟩ := hW
  have hA : DataW.TrodAll enc Try.prog W 0 (fun _ => true) true Try.f5.params.toList args.toList ds p := hA0
  rw [Try.params5] at hA hval
  obtain ⟨v0, vs0, d0, ds0, p0, q0, hargs, rfl, rfl, h0, r0⟩ := trodAll_cons hA
  obtain ⟨v1, vs1, d1, ds1, p1, q1, rfl, rfl, rfl, h1, r1⟩ := trodAll_cons r0
  obtain ⟨rfl, rfl, rfl⟩ := trodAll_nil r1
  obtain rfl : args = #[v0, v1] := by cases args; simp_all
  obtain ⟨rfl, rfl⟩ := trodVars_none hV
  have k0 := h0
  have lt0 : ∀ x ∈ p0, x.block < W.heap.size := by obtain ⟨m, hm⟩ := k0; exact DataW.trod_lt m _ _ _ hm
  obtain ⟨a0, len0, cap0, rfl⟩ := okWide_slice Try.underlying37 (hval 0 37 v0 rfl rfl)
  obtain ⟨z0, w0a, w0b, w0c⟩ : ∃ l : List Bool, SlAt (fun b => b < W.heap.size) 1 boE W (.slice a0 len0 cap0) l ∧ (∀ f ∈ l, (fun _ => True) f) ∧ l.length ≤ maxLen := by
    obtain ⟨fuel, hf⟩ := h0
    obtain ⟨v, l, hcs, h1, h2, h3⟩ := open_bools hf
    simp [Value.cells] at hcs
    subst hcs
    exact ⟨l, h1, h2, h3⟩
  obtain ⟨a1, rfl, rfl, rfl⟩ := open_bool Try.underlying4 (hval 1 4 v1 rfl rfl) h1
  clear hA0 hval0
  refine (walk (.slice a0 len0 cap0) z0 a1 W w0a w0b w0c).mono fun e W' ⟨he, bel⟩ => ?_
  subst he
  exact ⟨_, rfl, _, _, _, [], _, [], hW', trodAll_mk1 (shut_bool Try.underlying4 _), (trodAll_cons_mk (Below.trod laidOut (by kernel_rfl) (of_decide_eq_true (by kernel_rfl)) k0 bel lt0) (trodAll_cons_mk (shut_bool Try.underlying4 _) trodAll_mk0)), rfl, bel.frame _, fun h => by cases h⟩

theorem over : Rows.reachCountsRow.holds Try.pinned (OpenSpec.ofChange Rows.reachCountsSpec) :=
  OpenClaim.holds_of_wide 5 Try.f5 rfl rfl rfl rfl rfl rfl rfl ⟨rfl, rfl, rfl, rfl, rfl⟩ rfl rfl rfl rfl rfl (by kernel_rfl) Try.func5 (by kernel_rfl)
    (of_decide_eq_true (by kernel_rfl)) (by unfold Func.isWrapper; first | (rw [if_pos (by decide +kernel)]; kernel_rfl) | (rw [if_neg (by decide +kernel)]; exact ⟨rfl, rfl⟩))
    (fun os started H enc _ => lifted os started H enc)

theorem proved : Rows.ReachCountsSaid := over
end Go.Proofs.Ytfangllkfcmefaa.ReachCounts
