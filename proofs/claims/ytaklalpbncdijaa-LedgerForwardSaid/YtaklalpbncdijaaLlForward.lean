/- LedgerForward: for every list of at most 200 calls: between corrections a clock never goes back, whatever its rate; what is read twice is the same. (A longer one is let go by the statement itself.) No condition. -/
import Derived.Test.YtaklalpbncdijaaLgG
import Derived.Test.YtaklalpbncdijaaLgZ
import Derived.Test.YtaklalpbncdijaaFixZ
import Derived.WalkKit
import Derived.WalkSpells
import Derived.WalkLawsBesides
import Derived.Lib.Hide
import Derived.Handy
import Derived.ProofKit
import Derived.OpenShut
import Derived.ShutString
import Derived.ChangeOld
import Derived.Below
import Derived.Deep.RegionHeld3
namespace Go.Proofs.Ytaklalpbncdijaa.LedgerForward
open Go.Proofs.Ytaklalpbncdijaa.W
open Go.ChangeShapes Go.WideShapes Go.ChangeAt Go.RowKit
open Go.ChangeMaps (open_string shut_string)
set_option linter.unusedVariables false
theorem own : ownKnob Try.prog.godebug = none := by kernel_rfl
theorem laidOut : laidOutB Try.prog = true := by kernel_rfl
open Go.Sort
set_option linter.unusedSimpArgs false
theorem act_at {w0 w : World} {b : Nat} {off : Nat} {k : Nat} {a : Ac} (hB : Below w0.heap.size w0 w) (hb : b < w0.heap.size) (hc : ∀ j u, (acE a)[j]? = some u → w0.cell? ⟨b, off + k * 4 + j, none⟩ = some u) :
    w.cell? ⟨b, off + k * 4, none⟩ = some (.int .i64 a.kind) ∧ w.cell? ⟨b, off + k * 4 + 1, none⟩ = some (.int .i64 a.raw) ∧ w.cell? ⟨b, off + k * 4 + 2, none⟩ = some (.int .i64 a.by_) ∧ w.cell? ⟨b, off + k * 4 + 3, none⟩ = some (.bool a.step) :=
  ⟨((bcell hB).1 b _ hb).trans (hc 0 _ rfl), ((bcell hB).1 b _ hb).trans (hc 1 _ rfl), ((bcell hB).1 b _ hb).trans (hc 2 _ rfl), ((bcell hB).1 b _ hb).trans (hc 3 _ rfl)⟩
set_option maxRecDepth 100000 in
set_option maxHeartbeats 6400000 in
theorem walk (a0 : Int) (v1 : Value) (l : List Ac) (a2 a3 : Int) (w : World) (w0 : (Lit.int .i64 a0).wf = true) (iv : SlAt (fun b => b < w.heap.size) 4 acE w v1 l) (ty : ∀ f ∈ l, Ac.Typed f) (hlm : l.length ≤ maxLen) (w2 : (Lit.int .i64 a2).wf = true) (w3 : (Lit.int .i64 a3).wf = true) :
    Calls Try.prog 4 #[.int .i64 a0, v1, .int .i64 a2, .int .i64 a3] w fun e w' => e = .returned (.bool true) ∧ Below w.heap.size w w' := by
  obtain ⟨l0, u0⟩ := i64_bounds w0
  obtain ⟨l2, u2⟩ := i64_bounds w2
  obtain ⟨l3, u3⟩ := i64_bounds w3
  obtain ⟨x, c, rfl⟩ := iv.slice
  have cz := shown7_any
  clear w0 w2 w3
  by_cases hl : 200 < l.length
  · have hli : 200 < (l.length : Int) := by omega
    clear iv
    go_enter Try.func4, Try.ntmps4
    go_wp2_with fail
    (with_reducible refine (cz _).mono ?_)
    rintro e w1 ⟨rfl, hB⟩
    go_wp2_with fail
    go_ret
    exact ⟨rfl, hB⟩
  · have hli : ¬ 200 < (l.length : Int) := by omega
    have c1 := fun w' (h : Below w.heap.size w w') => onew_any a0 l0 u0 w w' h
    have c2 := rnew_any a0 l0 u0
    have IV := Lib.hid iv
    clear iv
    go_enter Try.func4, Try.ntmps4
    go_wp2_with fail
    (with_reducible refine (cz _).mono ?_)
    rintro e w1 ⟨rfl, hB⟩
    go_wp2_with fail
    (with_reducible refine (c1 _ hB).mono ?_)
    rintro e w2 ⟨pc, rfl, h1⟩
    go_wp2_with fail
    (with_reducible refine (c2 _).mono ?_)
    rintro e w3 ⟨rfl, hR, hB3⟩
    have hb := bnew h1 hR hB3
    clear h1 hR hB hB3
    generalize w2.heap.size = pr at *
    clear w1 w2
    go_wp2_with fail
    go_loopw [11] (fun i wr => ∃ k : Nat, k ≤ l.length ∧ i = .int .i64 k ∧ Both w wr pc pr (actsS (newS a0) (l.take k))) (fun i _ => l.length - (intOf i).toNat)
    case atStart => exact ⟨0, Nat.zero_le _, rfl, hb⟩
    case round =>
      obtain ⟨k, hk, rfl, hb⟩ := hrel
      have okk := acts_ok (new_ok a0) (l.take k)
      by_cases hlt : k < l.length
      · obtain ⟨f, hf, hfm⟩ := at_index l k hlt
        have hnx := acts_next (newS a0) l k f hf
        generalize actsS (newS a0) (l.take k) = cc at *
        have HN := Lib.hid hnx
        clear hnx
        rcases IV.out with ⟨_, _, _, _, rfl⟩ | ⟨b, off, cap, hv, hbl, hc⟩
        · simp at hlt
        · simp only [Value.slice.injEq] at hv
          obtain ⟨rfl, _, rfl⟩ := hv
          obtain ⟨a0', a1', a2', a3'⟩ := act_at hb.below hbl (hc k f hf)
          have i0 : (0 : Int) ≤ (k : Int) := by omega
          have i1 : (k : Int) < (l.length : Int) := by omega
          have y := does_any okk f (ty f hfm) wr hb
          clear hc hf
          go_wp2_with fail
          refine y.mono ?_
          rintro e w4 ⟨rfl, hb4⟩
          go_wp2_with fail
          go_roundw
          case rel => exact ⟨k + 1, by omega, by go_num, by rw [HN.out]; exact hb4⟩
          case measure => simp [intOf]; omega
      · obtain rfl : k = l.length := by omega
        generalize actsS (newS a0) (l.take l.length) = cc at *
        have hmm : ∃ m n, m ≤ n ∧ -9223372036854775808 ≤ m ∧ n ≤ 9223372036854775807 ∧ ((a2 < a3 ∧ m = a2 ∧ n = a3) ∨ (a2 = a3 ∧ m = a2 ∧ n = a2) ∨ (a3 < a2 ∧ m = a3 ∧ n = a2)) := by
          rcases Int.lt_trichotomy a2 a3 with h | h | h
          · exact ⟨a2, a3, by omega, by omega, by omega, .inl ⟨h, rfl, rfl⟩⟩
          · exact ⟨a2, a2, by omega, by omega, by omega, .inr (.inl ⟨h, rfl, rfl⟩)⟩
          · exact ⟨a3, a2, by omega, by omega, by omega, .inr (.inr ⟨h, rfl, rfl⟩)⟩
        obtain ⟨m, n, hmn, m0, n1, hcase⟩ := hmm
        have hlast : totE cc m = 0 → totE cc n = 0 → readV cc m ≤ readV cc n := fun h1 h2 => read_mono okk hmn h1 h2
        have y1 := fun w' (h : Both w w' pc pr cc) => bread_any okk m (by omega) (by omega) h
        have y2 := fun w' (h : Both w w' pc pr cc) => bread_any okk n (by omega) (by omega) h
        clear hmn m0 n1
        generalize readV cc m = p at *
        generalize readV cc n = q at *
        generalize totE cc m = s at *
        generalize totE cc n = t at *
        have hfin : s = 0 ∧ t = 0 ∧ p ≤ q ∨ (s = 0 ∧ ¬ t = 0) ∨ ¬ s = 0 := by
          by_cases hs : s = 0
          · by_cases ht : t = 0
            · exact .inl ⟨hs, ht, hlast hs ht⟩
            · exact .inr (.inl ⟨hs, ht⟩)
          · exact .inr (.inr hs)
        clear hlast l2 u2 l3 u3
        rcases hcase with ⟨h, rfl, rfl⟩ | ⟨rfl, rfl, rfl⟩ | ⟨h, rfl, rfl⟩
        all_goals
          rcases hfin with ⟨rfl, rfl, hpq⟩ | ⟨rfl, hs⟩ | hs
          all_goals
            go_wp2_with fail
            (with_reducible refine (y1 _ hb).mono ?_)
            rintro e w5 ⟨rfl, hb5⟩
            go_wp2_with fail
            (with_reducible refine (y2 _ hb5).mono ?_)
            rintro e w6 ⟨rfl, hb6⟩
            go_wp2_with fail
            (with_reducible refine (y1 _ hb6).mono ?_)
            rintro e w7 ⟨rfl, hb7⟩
            go_wp2_with fail
            go_ret
            exact ⟨rfl, hb7.below⟩
set_option maxRecDepth 100000 in
theorem lifted (os : Os) (started : os.Started) (H : Type) (enc : TypeId × Value → H) :
    ReturnsInHanded {} Try.checked os 4 .any (Rows.ledgerForwardSpec.pre6 enc Try.prog Try.f4 Rows.ledgerForwardRow.domain false) (Rows.ledgerForwardSpec.post enc Try.prog Try.f4 false true false false) := by
  refine returnsInHanded_of_change (C := Try.checked) own started (by kernel_rfl) Try.func4
    (ChangeSpec.witness6 (enc := enc) (C := Try.checked) false ⟨#[], #[.int .i64 0, .slice none 0 0, .int .i64 0, .int .i64 0], []⟩ 8 (by kernel_rfl) (by kernel_rfl) (by kernel_rfl) (by kernel_rfl)) ?_
  intro W base args ds gs before hval0 hW hcnd _
  have hval : ∀ (j : Nat) t v, Try.f4.params[j]? = some t → args[j]? = some v → Value.okWide Try.prog W .any base t v := hval0
  have hW' := hW
  obtain ⟨p, q, hA0, hV, rfl, hfz, hnd⟩ := hW
  have hA : DataW.TrodAll enc Try.prog W 0 (fun _ => true) true Try.f4.params.toList args.toList ds p := hA0
  rw [Try.params4] at hA hval
  obtain ⟨v0, vs0, d0, ds0, p0, q0, hargs, rfl, rfl, h0, r0⟩ := trodAll_cons hA
  obtain ⟨v1, vs1, d1, ds1, p1, q1, rfl, rfl, rfl, h1, r1⟩ := trodAll_cons r0
  obtain ⟨v2, vs2, d2, ds2, p2, q2, rfl, rfl, rfl, h2, r2⟩ := trodAll_cons r1
  obtain ⟨v3, vs3, d3, ds3, p3, q3, rfl, rfl, rfl, h3, r3⟩ := trodAll_cons r2
  obtain ⟨rfl, rfl, rfl⟩ := trodAll_nil r3
  obtain rfl : args = #[v0, v1, v2, v3] := by cases args; simp_all
  obtain ⟨rfl, rfl⟩ := trodVars_none hV
  obtain ⟨a0, rfl, rfl, rfl, w0⟩ := open_int Try.underlying2 (hval 0 2 v0 rfl rfl) h0
  have k1 := h1
  have lt1 : ∀ x ∈ p1, x.block < W.heap.size := by obtain ⟨m, hm⟩ := k1; exact DataW.trod_lt m _ _ _ hm
  obtain ⟨a1, len1, cap1, rfl⟩ := okWide_slice Try.underlying22 (hval 1 22 v1 rfl rfl)
  obtain ⟨z1, w1a, w1b, w1c⟩ : ∃ l : List Ac, SlAt (fun b => b < W.heap.size) 4 acE W (.slice a1 len1 cap1) l ∧ (∀ f ∈ l, Ac.Typed f) ∧ l.length ≤ maxLen := by
    obtain ⟨fuel, hf⟩ := h1
    obtain ⟨v, l, hcs, h1, h2, h3⟩ := open_acts hf
    simp [Value.cells] at hcs
    subst hcs
    exact ⟨l, h1, h2, h3⟩
  obtain ⟨a2, rfl, rfl, rfl, w2⟩ := open_int Try.underlying2 (hval 2 2 v2 rfl rfl) h2
  obtain ⟨a3, rfl, rfl, rfl, w3⟩ := open_int Try.underlying2 (hval 3 2 v3 rfl rfl) h3
  clear hA0 hval0
  refine (walk a0 (.slice a1 len1 cap1) z1 a2 a3 W w0 w1a w1b w1c w2 w3).mono fun e W' ⟨he, bel⟩ => ?_
  subst he
  exact ⟨_, rfl, _, _, _, [], _, [], hW', trodAll_mk1 (shut_bool Try.underlying4 _), (trodAll_cons_mk (shut_int Try.underlying2 w0) (trodAll_cons_mk (Below.trod laidOut (by kernel_rfl) (of_decide_eq_true (by kernel_rfl)) k1 bel lt1) (trodAll_cons_mk (shut_int Try.underlying2 w2) (trodAll_cons_mk (shut_int Try.underlying2 w3) trodAll_mk0)))), rfl, bel.frame _, fun h => by cases h⟩

theorem over : Rows.ledgerForwardRow.holds Try.pinned (OpenSpec.ofChange Rows.ledgerForwardSpec) :=
  OpenClaim.holds_of_wide 4 Try.f4 rfl rfl rfl rfl rfl rfl rfl ⟨rfl, rfl, rfl, rfl, rfl⟩ rfl rfl rfl rfl rfl (by kernel_rfl) Try.func4 (by kernel_rfl)
    (of_decide_eq_true (by kernel_rfl)) (by unfold Func.isWrapper; first | (rw [if_pos (by decide +kernel)]; kernel_rfl) | (rw [if_neg (by decide +kernel)]; exact ⟨rfl, rfl⟩))
    (fun os started H enc _ => lifted os started H enc)

theorem proved : Rows.LedgerForwardSaid := over
end Go.Proofs.Ytaklalpbncdijaa.LedgerForward
