/- ExtendMacs: for every byte, so many letters alone are a MAC, or none; as many behind a field are its. No condition. -/
import Derived.Test.YtdcpohbgbnbgmaaEdY
import Derived.WalkKit
import Derived.WalkSpells
import Derived.WalkLawsBesides
import Derived.Lib.Hide
import Derived.Handy
import Derived.ProofKit
import Derived.OpenShut
import Derived.ShutString
import Derived.ChangeOld
import Derived.Below
namespace Go.Proofs.Ytdcpohbgbnbgmaa.ExtendMacs
open Go.Proofs.Ytdcpohbgbnbgmaa.W
open Go.ChangeShapes Go.WideShapes Go.ChangeAt Go.RowKit
open Go.ChangeMaps (open_string shut_string)
set_option linter.unusedVariables false
theorem own : ownKnob Try.prog.godebug = none := by kernel_rfl
theorem laidOut : laidOutB Try.prog = true := by kernel_rfl
set_option linter.unusedSimpArgs false
def fieldF : List UInt8 := [0, 7, 0, 28, 97, 98, 99, 100, 101, 102, 103, 104, 105, 106, 107, 108, 109, 110, 111, 112, 113, 114, 115, 116, 117, 118, 119, 120]
def fdF : W.Fd := ⟨7, [97, 98, 99, 100, 101, 102, 103, 104, 105, 106, 107, 108, 109, 110, 111, 112, 113, 114, 115, 116, 117, 118, 119, 120]⟩
def ms (k : Nat) : List UInt8 := List.replicate k 109
theorem ms_next (k : Nat) : ms k ++ [109] = ms (k + 1) := by unfold ms; rw [show ([109] : List UInt8) = List.replicate 1 109 from rfl, List.replicate_append_replicate]
theorem ms_length (k : Nat) : (ms k).length = k := by unfold ms; simp
theorem walk_ms (k : Nat) (h : k < 25) : walkL (ms k) = if macN k then some ([], ms k) else none := by
  rw [walkL_step, if_pos (by rw [ms_length]; omega), ms_length]
theorem walk_fms (k : Nat) (h : k < 25) : walkL (fieldF ++ ms k) = if macN k then some ([fdF], ms k) else none := by
  have e : fieldF = fdEnc fdF := by decide
  rw [e, walk_cons fdF (ms k) (by decide) (by show 20 < 24 + _; omega), walk_ms k h]
  cases macN k <;> rfl
set_option maxHeartbeats 6400000 in
theorem walk (a0 : Int) (w : World) (w0 : (Lit.int .u8 a0).wf = true) :
    Calls Try.prog 7 #[.int .u8 a0] w fun e w' => e = .returned (.bool true) ∧ Below w.heap.size w w' := by
  have q0 := bounds_u8 w0
  clear w0
  have cz := xshown_any
  obtain ⟨k, hk⟩ : ∃ k : Nat, (a0 % 25).toNat = k := ⟨_, rfl⟩
  have k25 : k < 25 := by omega
  have em : a0.tmod 25 = k := by rw [Int.tmod_eq_emod_of_nonneg (by omega)]; omega
  have em2 : a0 % 25 = k := by omega
  have wa : IntKind.i64.wrap a0 = a0 := by rw [IntKind.wrap_i64]; omega
  have z1 : (ByteArray.mk #[109]) = bs [109] := rfl
  have z2 : (ByteArray.mk #[0, 7, 0, 28, 97, 98, 99, 100, 101, 102, 103, 104, 105, 106, 107, 108, 109, 110, 111, 112, 113, 114, 115, 116, 117, 118, 119, 120]) = bs fieldF := rfl
  clear hk
  have hml := ms_length
  have c1 := ewalk_any (ms k) (by rw [ms_length]; omega)
  have c2 := ewalk_any (fieldF ++ ms k) (by rw [List.length_append, ms_length]; show 28 + _ ≤ _; omega)
  have hfl : fieldF.length = 28 := rfl
  go_enter Try.func7, Try.ntmps7
  go_wp2_with fail
  go_loop [4, 5] (fun s i => ∃ j : Nat, j ≤ k ∧ i = .int .i64 j ∧ s = .string (bs (ms j))) (fun _ i => k - (intOf i).toNat)
  case atStart => exact ⟨0, Nat.zero_le _, rfl, rfl⟩
  case round =>
    obtain ⟨j, hj, rfl, rfl⟩ := hrel
    by_cases hlt : j < k
    · have hb : (ms j).length + 1 ≤ 9223372036854775807 := by rw [ms_length]; omega
      have hn := ms_next j
      have HN := Lib.hid hn
      clear hn
      go_wp2_with fail
      go_round
      case rel => exact ⟨j + 1, by omega, by go_num, by simp [bs_append, HN.out]⟩
      case measure => simp [intOf]; omega
    · obtain rfl : j = k := by omega
      have w1 := walk_ms j k25
      have w2 := walk_fms j k25
      by_cases hm : macN j = true
      · rw [if_pos hm] at w1 w2
        obtain ⟨e1, e2, e3⟩ := wk_yes w1
        obtain ⟨f1, f2, f3⟩ := wk_yes w2
        rw [e1, e2, e3] at c1
        rw [f1, f2, f3] at c2
        clear e1 e2 e3 f1 f2 f3 w1 w2
        have hc : j = 0 ∨ j = 4 ∨ j = 20 ∨ j = 24 := by
          unfold macN at hm
          simp at hm
          omega
        clear hm
        have hcat : fieldF.length + (ms j).length ≤ 9223372036854775807 := by rw [ms_length, hfl]; omega
        rcases hc with rfl | rfl | rfl | rfl
        all_goals
          go_wp2_with fail
          (with_reducible refine (c1 _).mono ?_)
          rintro e v1 ⟨u1, rfl, ho1, hB⟩
          have i1 := FdIn.own ho1
          obtain ⟨x1, p1, rfl⟩ := i1.slice
          clear ho1 i1
          go_wp2_with fail
          (with_reducible refine (c2 _).mono ?_)
          rintro e v2 ⟨u2, rfl, ho2, hb⟩
          have i2 := FdIn.own ho2
          replace hB := hB.trans (hb.mono hB.size)
          clear ho2 hb
          go_wp2_with fail
          (with_reducible refine (cz _).mono ?_)
          rintro e v3 ⟨rfl, hb⟩
          replace i2 := i2.kept hb
          replace hB := hB.trans (hb.mono hB.size)
          clear hb
          rcases i2 with ⟨_, _, _, _, h⟩ | ⟨b, off, cap, rfl, hbl, hcc⟩
          · cases h
          · obtain ⟨g1, _⟩ := hcc 0 (by simp)
            simp only [Nat.zero_mul, Nat.add_zero, List.getD_cons_zero] at g1
            clear hcc
            go_wp2_with fail
            go_ret
            exact ⟨rfl, hB⟩
      · have hm' : macN j = false := by simpa using hm
        rw [if_neg hm] at w1 w2
        obtain ⟨e1, e2, e3⟩ := wk_no w1
        obtain ⟨f1, f2, f3⟩ := wk_no w2
        rw [e1, e2, e3] at c1
        rw [f1, f2, f3] at c2
        unfold macN at hm'
        simp at hm'
        have h1 : ¬ (j : Int) = 0 := by omega
        have h2 : ¬ (j : Int) = 4 := by omega
        have h3 : ¬ (j : Int) = 20 := by omega
        have h4 : ¬ (j : Int) = 24 := by omega
        have b1 : ((j : Int) == 0) = false := by simpa using h1
        have b2 : ((j : Int) == 4) = false := by simpa using h2
        have b3 : ((j : Int) == 20) = false := by simpa using h3
        have b4 : ((j : Int) == 24) = false := by simpa using h4
        clear h1 h2 h3 h4
        clear e1 e2 e3 f1 f2 f3 w1 w2 hm hm'
        have hcat : fieldF.length + (ms j).length ≤ 9223372036854775807 := by rw [ms_length, hfl]; omega
        go_wp2_with fail
        (with_reducible refine (c1 _).mono ?_)
        rintro e v1 ⟨u1, rfl, ho1, hB⟩
        clear ho1
        go_wp2_with fail
        (with_reducible refine (c2 _).mono ?_)
        rintro e v2 ⟨u2, rfl, ho2, hb⟩
        replace hB := hB.trans (hb.mono hB.size)
        clear ho2 hb
        go_wp2_with fail
        (with_reducible refine (cz _).mono ?_)
        rintro e v3 ⟨rfl, hb⟩
        replace hB := hB.trans (hb.mono hB.size)
        clear hb
        go_wp2_with fail
        go_ret
        exact ⟨rfl, hB⟩
set_option maxRecDepth 100000 in
theorem lifted (os : Os) (started : os.Started) (H : Type) (enc : TypeId × Value → H) :
    ReturnsInHanded {} Try.checked os 7 .any (Rows.extendMacsSpec.pre6 enc Try.prog Try.f7 Rows.extendMacsRow.domain false) (Rows.extendMacsSpec.post enc Try.prog Try.f7 false true false false) := by
  refine returnsInHanded_of_change (C := Try.checked) own started (by kernel_rfl) Try.func7
    (ChangeSpec.witness6 (enc := enc) (C := Try.checked) false ⟨#[], #[.int .u8 0], []⟩ 8 (by kernel_rfl) (by kernel_rfl) (by kernel_rfl) (by kernel_rfl)) ?_
  intro W base args ds gs before hval0 hW hcnd _
  have hval : ∀ (j : Nat) t v, Try.f7.params[j]? = some t → args[j]? = some v → Value.okWide Try.prog W .any base t v := hval0
  have hW' := hW
  obtain ⟨p, q, hA0, hV, rfl, hfz, hnd⟩ := hW
  have hA : DataW.TrodAll enc Try.prog W 0 (fun _ => true) true Try.f7.params.toList args.toList ds p := hA0
  rw [Try.params7] at hA hval
  obtain ⟨v0, vs0, d0, ds0, p0, q0, hargs, rfl, rfl, h0, r0⟩ := trodAll_cons hA
  obtain ⟨rfl, rfl, rfl⟩ := trodAll_nil r0
  obtain rfl : args = #[v0] := by cases args; simp_all
  obtain ⟨rfl, rfl⟩ := trodVars_none hV
  obtain ⟨a0, rfl, rfl, rfl, w0⟩ := open_int Try.underlying5 (hval 0 5 v0 rfl rfl) h0
  clear hA0 hval0
  refine (walk a0 W w0).mono fun e W' ⟨he, bel⟩ => ?_
  subst he
  exact ⟨_, rfl, _, _, _, [], _, [], hW', trodAll_mk1 (shut_bool Try.underlying4 _), (trodAll_cons_mk (shut_int Try.underlying5 w0) trodAll_mk0), rfl, bel.frame _, fun h => by cases h⟩

theorem over : Rows.extendMacsRow.holds Try.pinned (OpenSpec.ofChange Rows.extendMacsSpec) :=
  OpenClaim.holds_of_wide 7 Try.f7 rfl rfl rfl rfl rfl rfl rfl ⟨rfl, rfl, rfl, rfl, rfl⟩ rfl rfl rfl rfl rfl (by kernel_rfl) Try.func7 (by kernel_rfl)
    (of_decide_eq_true (by kernel_rfl)) (by unfold Func.isWrapper; first | (rw [if_pos (by decide +kernel)]; kernel_rfl) | (rw [if_neg (by decide +kernel)]; exact ⟨rfl, rfl⟩))
    (fun os started H enc _ => lifted os started H enc)

theorem proved : Rows.ExtendMacsSaid := over
end Go.Proofs.Ytdcpohbgbnbgmaa.ExtendMacs
