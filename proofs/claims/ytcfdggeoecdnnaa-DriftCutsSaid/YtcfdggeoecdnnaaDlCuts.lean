/- DriftCuts: for every text of at most 100 bytes, every list of at most 50 frequencies, every frequency and every number: wherever the power goes in a Save, what is loaded behind it is what was there ahead of it, or what was saved. (A longer text or list is let go by the statement itself.) No condition. -/
import Derived.Test.YtcfdggeoecdnnaaDrK
import Derived.Test.YtcfdggeoecdnnaaRowS
import Derived.WalkKit
import Derived.WalkSpells
import Derived.WalkLawsBesides
import Derived.Lib.Hide
import Derived.Handy
import Derived.ProofKit
import Derived.OpenShut
import Derived.ShutString
import Derived.ChangeOld
import Derived.Below
namespace Go.Proofs.Ytcfdggeoecdnnaa.DriftCuts
open Go.Proofs.Ytcfdggeoecdnnaa.W
open Go.ChangeShapes Go.WideShapes Go.ChangeAt Go.RowKit
open Go.ChangeMaps (open_string shut_string)
set_option linter.unusedVariables false
theorem own : ownKnob Try.prog.godebug = none := by kernel_rfl
theorem laidOut : laidOutB Try.prog = true := by kernel_rfl
open Go.Sort
set_option linter.unusedSimpArgs false
set_option maxRecDepth 100000 in
set_option maxHeartbeats 12800000 in
theorem walk (s : ByteArray) (a1 : Option Addr) (len1 cap1 : Nat) (zs : List Int) (freq cut : Int) (w : World) (w0 : s.size ≤ maxLen) (w1 : IsRow .i64 w a1 len1 cap1 zs) (w2 : (Lit.int .i64 freq).wf = true) (w3 : (Lit.int .u8 cut).wf = true) :
    Calls Try.prog 3 #[.string s, .slice a1 len1 cap1, .int .i64 freq, .int .u8 cut] w fun e w' => e = .returned (.bool true) ∧ Below w.heap.size w w' := by
  obtain ⟨z, rfl, hz, iv⟩ := w1.sl
  obtain ⟨f0, f1⟩ := i64_bounds w2
  have c01 := u8_bounds w3
  clear w1 w2 w3
  have cz := shown9_any
  have IV := Lib.hid iv
  have HZ := Lib.hid hz
  clear iv hz
  obtain ⟨sz, hsz⟩ : ∃ n : Nat, s.size = n := ⟨_, rfl⟩
  by_cases hl : 100 < s.size
  · have hli : 100 < (s.size : Int) := by omega
    go_enter Try.func3, Try.ntmps3
    go_wp2_with fail
    (with_reducible refine (cz _).mono ?_)
    rintro e w1 ⟨rfl, hB⟩
    go_wp2_with fail
    go_ret
    exact ⟨rfl, hB⟩
  · have hli : ¬ 100 < (s.size : Int) := by omega
    by_cases hl2 : 50 < z.length
    · have hl2i : 50 < (z.length : Int) := by omega
      go_enter Try.func3, Try.ntmps3
      go_wp2_with fail
      (with_reducible refine (cz _).mono ?_)
      rintro e w1 ⟨rfl, hB⟩
      go_wp2_with fail
      go_ret
      exact ⟨rfl, hB⟩
    · have hl2i : ¬ 50 < (z.length : Int) := by omega
      have cn := fun w' (h : Below w.heap.size w w') => dnew_any s.data.toList (by
        have : s.data.toList.length = s.size := rfl
        omega) w w' h
      rw [bs_data] at cn
      have hlv := newD_live s.data.toList
      generalize newD s.data.toList = d0 at *
      obtain ⟨q, hq⟩ : ∃ q : Nat, q = cut.toNat % 20 := ⟨_, rfl⟩
      have q1 : cut % 20 = (q : Int) := by omega
      have q2 : cut.tmod 20 = (q : Int) := by rw [Int.tmod_eq_emod_of_nonneg (by omega)]; exact q1
      have q3 : IntKind.i64.wrap cut = cut := by rw [IntKind.wrap_i64]; omega
      have hq20 : q < 20 := by omega
      clear hq
      go_enter Try.func3, Try.ntmps3
      go_wp2_with fail
      (with_reducible refine (cz _).mono ?_)
      rintro e w1 ⟨rfl, hB1⟩
      go_wp2_with fail
      (with_reducible refine (cn _ hB1).mono ?_)
      rintro e w2 ⟨p, rfl, h2, _⟩
      clear cn hB1
      go_wp2_with fail
      go_loopw [10] (fun i wr => ∃ (j : Nat) (d : Dk), j ≤ z.length ∧ i = .int .i64 j ∧ Live d ∧ OneD w wr p d) (fun i _ => z.length - (intOf i).toNat)
      case atStart => exact ⟨0, d0, Nat.zero_le _, rfl, hlv, h2⟩
      case round =>
        obtain ⟨j, d, hj, rfl, lv, h3⟩ := hrel
        by_cases hlt : j < z.length
        · obtain ⟨y, hy, hym⟩ := at_index z j hlt
          rcases IV.out with ⟨_, _, _, _, rfl⟩ | ⟨b, off, cap, hv, hbl, hc⟩
          · simp at hlt
          · simp only [Value.slice.injEq] at hv
            obtain ⟨rfl, _, rfl⟩ := hv
            have y01 := i64_bounds (HZ.out y hym)
            have cw : w.cell? ⟨b, off + j, none⟩ = some (.int .i64 y) := by
              have := hc j y hy 0 _ rfl
              rw [Nat.mul_one, Nat.add_zero] at this
              exact this
            have c0 : wr.cell? ⟨b, off + j, none⟩ = some (.int .i64 y) := ((bcell h3.below).1 b _ hbl).trans cw
            have i0 : (0 : Int) ≤ (j : Int) := by omega
            have i1 : (j : Int) < (z.length : Int) := by omega
            obtain ⟨v1, lv2, _⟩ := live_save lv y
            obtain ⟨v2, v3⟩ := live_load lv y y01.1 y01.2
            have y1 := dsave_any y y01.1 y01.2 h3
            rw [v1] at y1
            have y2 := fun w' (h : OneD w w' p (savD d y)) => dload_any h
            rw [v2, v3] at y2
            generalize savD d y = d2 at *
            clear hc hy v1 v2 v3
            go_wp2_with fail
            (with_reducible refine y1.mono ?_)
            clear y1
            rintro e w4 ⟨rfl, h4⟩
            go_wp2_with fail
            (with_reducible refine (y2 _ h4).mono ?_)
            clear y2
            rintro e w5 ⟨rfl, hB5⟩
            have h5 := h4.kept hB5
            have c5 : w5.cell? ⟨b, off + j, none⟩ = some (.int .i64 y) := ((bcell h5.below).1 b _ hbl).trans cw
            go_wp2_with fail
            go_roundw
            case rel => exact ⟨j + 1, _, by omega, by go_num, lv2, h5⟩
            case measure => simp [intOf]; omega
        · obtain rfl : j = z.length := by omega
          have ok := lv.ok
          have y1 := dload_any h3
          have y2 := fun w' (h : OneD w w' p d) => dcut_any (q : Int) (by omega) (by omega) h
          have y3 := fun w' (h : OneD w w' p (cutD d (q : Int))) => dsave_any freq f0 f1 h
          have okc := cut_ok ok (q : Int) (by omega)
          have oks := sav_ok okc freq
          have y4 := fun w' (h : OneD w w' p (savD (cutD d (q : Int)) freq)) => dbytes_any h
          have y5 := fun w' (h : Below w.heap.size w w') => dnew_any (savD (cutD d (q : Int)) freq).s (by rw [oks.s]; decide) w w' h
          have y6 := fun w' p' (h : OneD w w' p' (newD (savD (cutD d (q : Int)) freq).s)) => dload_any h
          have y7 := fun w' (h : OneD w w' p (savD (cutD d (q : Int)) freq)) => ddead_any h
          have en : (newD (savD (cutD d (q : Int)) freq).s).s = (savD (cutD d (q : Int)) freq).s := by rw [newD_same oks.s]
          rw [en] at y6
          have lq : max (q : Int) 0 = (q : Int) := by omega
          by_cases h17 : 17 ≤ q
          · have h17i : (17 : Int) ≤ (q : Int) := by omega
            have es : savD (cutD d (q : Int)) freq = ⟨put16 d.s (target d.s) (packS d.s freq), (q : Int) - 17, false⟩ := by
              unfold savD cutD
              rw [lv.off, lq]
              simp only [Bool.false_eq_true, if_false]
              rw [if_neg (by omega), if_pos h17i]
            have ee : savE (cutD d (q : Int)) = 0 := by
              unfold savE cutD
              rw [lv.off, lq]
              simp only [Bool.false_eq_true, if_false]
              rw [if_pos (.inr h17i)]
            obtain ⟨v1, v2⟩ := save_load ok.s freq f0 f1
            rw [ee] at y3
            rw [es] at y3 y4 y5 y6 y7
            rw [v1, v2] at y6
            dsimp only at y7
            rw [← es] at y3 y4 y5 y6 y7
            generalize savD (cutD d (q : Int)) freq = d2 at *
            clear es okc oks en
            go_wp2_with fail
            (with_reducible refine y1.mono ?_)
            clear y1
            rintro e w4 ⟨rfl, hB4⟩
            have h4 := h3.kept hB4
            clear h3 hB4
            go_wp2_with fail
            (with_reducible refine (y2 _ h4).mono ?_)
            rintro e w5 ⟨rfl, h5⟩
            clear h4 y2
            go_wp2_with fail
            (with_reducible refine (y3 _ h5).mono ?_)
            rintro e w6 ⟨rfl, h6⟩
            clear h5 y3
            go_wp2_with fail
            (with_reducible refine (y4 _ h6).mono ?_)
            rintro e w7 ⟨rfl, hB7⟩
            have h7 := h6.kept hB7
            clear h6 hB7 y4
            go_wp2_with fail
            (with_reducible refine (y5 _ h7.below).mono ?_)
            rintro e w8 ⟨p8, rfl, h8, hB8⟩
            have h8' := h7.kept hB8
            clear h7 hB8 y5
            go_wp2_with fail
            (with_reducible refine (y6 _ _ h8).mono ?_)
            rintro e w9 ⟨rfl, hB9⟩
            have h9 := h8'.kept hB9
            clear h8 h8' hB9 y6
            go_wp2_with fail
            (with_reducible refine (y7 _ h9).mono ?_)
            rintro e w10 ⟨rfl, hB10⟩
            have h10 := h9.kept hB10
            clear h9 hB10 y7
            go_wp2_with fail
            go_ret
            exact ⟨rfl, h10.below⟩
          · have h17i : ¬ (17 : Int) ≤ (q : Int) := by omega
            have es : savD (cutD d (q : Int)) freq = ⟨puts d.s ((saveW (target d.s) (packS d.s freq)).take q), 0, true⟩ := by
              unfold savD cutD
              rw [lv.off, lq]
              simp only [Bool.false_eq_true, if_false]
              rw [if_neg (by omega), if_neg h17i]
              rfl
            have ee : savE (cutD d (q : Int)) = 90 := by
              unfold savE cutD
              rw [lv.off, lq]
              simp only [Bool.false_eq_true, if_false]
              rw [if_neg (by omega)]
            obtain ⟨v1, v2⟩ := cut_load ok.s freq (k := q) (by omega)
            rw [ee] at y3
            rw [es] at y3 y4 y5 y6 y7
            rw [v1, v2] at y6
            dsimp only at y7
            rw [← es] at y3 y4 y5 y6 y7
            generalize savD (cutD d (q : Int)) freq = d2 at *
            clear v1 v2 ee
            obtain ⟨lvv, hlvv⟩ : ∃ x, x = loadV d.s := ⟨_, rfl⟩
            obtain ⟨lbb, hlbb⟩ : ∃ x, x = loadB d.s := ⟨_, rfl⟩
            rw [← hlvv, ← hlbb] at y1 y6
            clear hlvv hlbb
            clear es okc oks en
            go_wp2_with fail
            (with_reducible refine y1.mono ?_)
            clear y1
            rintro e w4 ⟨rfl, hB4⟩
            have h4 := h3.kept hB4
            clear h3 hB4
            go_wp2_with fail
            (with_reducible refine (y2 _ h4).mono ?_)
            rintro e w5 ⟨rfl, h5⟩
            clear h4 y2
            go_wp2_with fail
            (with_reducible refine (y3 _ h5).mono ?_)
            rintro e w6 ⟨rfl, h6⟩
            clear h5 y3
            go_wp2_with fail
            (with_reducible refine (y4 _ h6).mono ?_)
            rintro e w7 ⟨rfl, hB7⟩
            have h7 := h6.kept hB7
            clear h6 hB7 y4
            go_wp2_with fail
            (with_reducible refine (y5 _ h7.below).mono ?_)
            rintro e w8 ⟨p8, rfl, h8, hB8⟩
            have h8' := h7.kept hB8
            clear h7 hB8 y5
            go_wp2_with fail
            (with_reducible refine (y6 _ _ h8).mono ?_)
            rintro e w9 ⟨rfl, hB9⟩
            have h9 := h8'.kept hB9
            clear h8 h8' hB9 y6
            go_wp2_with fail
            (with_reducible refine (y7 _ h9).mono ?_)
            rintro e w10 ⟨rfl, hB10⟩
            have h10 := h9.kept hB10
            clear h9 hB10 y7
            go_wp2_with fail
            go_ret
            exact ⟨rfl, h10.below⟩
set_option maxRecDepth 100000 in
theorem lifted (os : Os) (started : os.Started) (H : Type) (enc : TypeId × Value → H) :
    ReturnsInHanded {} Try.checked os 3 .any (Rows.driftCutsSpec.pre6 enc Try.prog Try.f3 Rows.driftCutsRow.domain false) (Rows.driftCutsSpec.post enc Try.prog Try.f3 false true false false) := by
  refine returnsInHanded_of_change (C := Try.checked) own started (by kernel_rfl) Try.func3
    (ChangeSpec.witness6 (enc := enc) (C := Try.checked) false ⟨#[], #[.string ByteArray.empty, .slice none 0 0, .int .i64 0, .int .u8 0], []⟩ 8 (by kernel_rfl) (by kernel_rfl) (by kernel_rfl) (by kernel_rfl)) ?_
  intro W base args ds gs before hval0 hW hcnd _
  have hval : ∀ (j : Nat) t v, Try.f3.params[j]? = some t → args[j]? = some v → Value.okWide Try.prog W .any base t v := hval0
  have hW' := hW
  obtain ⟨p, q, hA0, hV, rfl, hfz, hnd⟩ := hW
  have hA : DataW.TrodAll enc Try.prog W 0 (fun _ => true) true Try.f3.params.toList args.toList ds p := hA0
  rw [Try.params3] at hA hval
  obtain ⟨v0, vs0, d0, ds0, p0, q0, hargs, rfl, rfl, h0, r0⟩ := trodAll_cons hA
  obtain ⟨v1, vs1, d1, ds1, p1, q1, rfl, rfl, rfl, h1, r1⟩ := trodAll_cons r0
  obtain ⟨v2, vs2, d2, ds2, p2, q2, rfl, rfl, rfl, h2, r2⟩ := trodAll_cons r1
  obtain ⟨v3, vs3, d3, ds3, p3, q3, rfl, rfl, rfl, h3, r3⟩ := trodAll_cons r2
  obtain ⟨rfl, rfl, rfl⟩ := trodAll_nil r3
  obtain rfl : args = #[v0, v1, v2, v3] := by cases args; simp_all
  obtain ⟨rfl, rfl⟩ := trodVars_none hV
  obtain ⟨a0, rfl, rfl, rfl, w0⟩ := open_string Try.underlying9 (hval 0 9 v0 rfl rfl) h0
  obtain ⟨a1, len1, cap1, rfl⟩ := okWide_slice Try.underlying22 (hval 1 22 v1 rfl rfl)
  have k1 := h1
  have lt1 : ∀ x ∈ p1, x.block < W.heap.size := by obtain ⟨m, hm⟩ := k1; exact DataW.trod_lt m _ _ _ hm
  obtain ⟨z1, w1⟩ : ∃ zs, IsRow .i64 W a1 len1 cap1 zs := by
    obtain ⟨fuel, hf⟩ := h1
    rcases open_ints Try.underlying22 Try.underlying2 (by kernel_rfl) hf with ⟨hcs, _⟩ | ⟨x, l, c, zs, hcs, _, hl, hm, hz, _, hcell, hwz⟩
    · simp [Value.cells] at hcs
      obtain ⟨rfl, rfl, rfl⟩ := hcs
      exact ⟨[], .inl ⟨rfl, rfl, rfl, rfl⟩⟩
    · simp [Value.cells] at hcs
      obtain ⟨rfl, rfl, rfl⟩ := hcs
      exact ⟨zs, .inr ⟨_, rfl, hl, hm, by simpa using hz, hcell, hwz⟩⟩
  obtain ⟨a2, rfl, rfl, rfl, w2⟩ := open_int Try.underlying2 (hval 2 2 v2 rfl rfl) h2
  obtain ⟨a3, rfl, rfl, rfl, w3⟩ := open_int Try.underlying5 (hval 3 5 v3 rfl rfl) h3
  clear hA0 hval0
  refine (walk a0 a1 len1 cap1 z1 a2 a3 W w0 w1 w2 w3).mono fun e W' ⟨he, bel⟩ => ?_
  subst he
  exact ⟨_, rfl, _, _, _, [], _, [], hW', trodAll_mk1 (shut_bool Try.underlying4 _), (trodAll_cons_mk (shut_string Try.underlying9 w0) (trodAll_cons_mk (Below.trod laidOut (by kernel_rfl) (of_decide_eq_true (by kernel_rfl)) k1 bel lt1) (trodAll_cons_mk (shut_int Try.underlying2 w2) (trodAll_cons_mk (shut_int Try.underlying5 w3) trodAll_mk0)))), rfl, bel.frame _, fun h => by cases h⟩

theorem over : Rows.driftCutsRow.holds Try.pinned (OpenSpec.ofChange Rows.driftCutsSpec) :=
  OpenClaim.holds_of_wide 3 Try.f3 rfl rfl rfl rfl rfl rfl rfl ⟨rfl, rfl, rfl, rfl, rfl⟩ rfl rfl rfl rfl rfl (by kernel_rfl) Try.func3 (by kernel_rfl)
    (of_decide_eq_true (by kernel_rfl)) (by unfold Func.isWrapper; first | (rw [if_pos (by decide +kernel)]; kernel_rfl) | (rw [if_neg (by decide +kernel)]; exact ⟨rfl, rfl⟩))
    (fun os started H enc _ => lifted os started H enc)

theorem proved : Rows.DriftCutsSaid := over
end Go.Proofs.Ytcfdggeoecdnnaa.DriftCuts
