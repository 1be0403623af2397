/- Layer 12's laws: what is standard; settings and askings that came in, opened; that an answer is one. -/
import Derived.Test.YtjelbpibofngiaaCkX
import Derived.Test.YtjelbpibofngiaaStY
import Derived.Test.YtjelbpibofngiaaQtB
import Derived.Test.YtjelbpibofngiaaHdZ
import Derived.ChangeArms
import Derived.OpenShut
import Derived.ChangeOld
import Derived.Handy
import Derived.WalkKit
import Derived.Lib.Hide
namespace Go.Proofs.Ytjelbpibofngiaa.W
open Go.RowKit Go.Sort Go.ChangeShapes Go.WideShapes
set_option linter.unusedVariables false
set_option linter.unusedSimpArgs false
theorem num15 : ofV 4609434218613702656 = 6442450944 := by
  obtain ⟨k, hk⟩ : ∃ k, 1022 = k := ⟨_, rfl⟩
  rw [ofV_big (k := k) (c := 6755399441055744) (d := 52) (by omega) (by decide) (by decide) (by decide) (by omega)]
  decide
theorem std_dist : (chkP stdC).maxdist = 6442450944 := by
  unfold chkP
  rw [std_none, if_pos rfl]
  have e : ∀ c : Cf, (setP c).maxdist = ofV c.maxdist := fun c => by
    unfold setP
    simp only []
  rw [e]
  exact num15
set_option maxRecDepth 100000 in
theorem open_pm {H : Type} {enc : TypeId × Value → H} {w : World} {base : Nat} {spare : Nat → Bool} {held : Bool} {r : Reach} {b0 : Nat} {v : Value} {d : DataW H} {p : List MemPlace}
    (hv : Value.okWide Try.prog w r b0 23 v) (h : DataW.Trod enc Try.prog w base spare held 23 v d p) : ∃ h : Pm, v = h.val ∧ h.Typed := by
  obtain ⟨zs, hl, rfl, hw⟩ := open_int_fields [.i64, .i64, .i64, .i64, .i64, .i64, .i64, .i64, .i64, .i64, .i64, .i64] Try.underlying23 (by kernel_rfl) (by kernel_rfl) rfl (by
    intro i f hf
    match i, hf with
    | 0, hf => simp at hf; subst hf; exact ⟨.i64, rfl, Try.underlying2⟩
    | 1, hf => simp at hf; subst hf; exact ⟨.i64, rfl, Try.underlying2⟩
    | 2, hf => simp at hf; subst hf; exact ⟨.i64, rfl, Try.underlying2⟩
    | 3, hf => simp at hf; subst hf; exact ⟨.i64, rfl, Try.underlying2⟩
    | 4, hf => simp at hf; subst hf; exact ⟨.i64, rfl, Try.underlying2⟩
    | 5, hf => simp at hf; subst hf; exact ⟨.i64, rfl, Try.underlying2⟩
    | 6, hf => simp at hf; subst hf; exact ⟨.i64, rfl, Try.underlying2⟩
    | 7, hf => simp at hf; subst hf; exact ⟨.i64, rfl, Try.underlying3⟩
    | 8, hf => simp at hf; subst hf; exact ⟨.i64, rfl, Try.underlying3⟩
    | 9, hf => simp at hf; subst hf; exact ⟨.i64, rfl, Try.underlying3⟩
    | 10, hf => simp at hf; subst hf; exact ⟨.i64, rfl, Try.underlying3⟩
    | 11, hf => simp at hf; subst hf; exact ⟨.i64, rfl, Try.underlying3⟩
    | n + 12, hf => simp at hf) hv h
  match zs, hl with
  | [step, watch, panic, maxrate, phi, maxdist, gate, minpoll, maxpoll, burst, minsane, minleft], _ =>
    refine ⟨⟨step, watch, panic, maxrate, phi, maxdist, gate, minpoll, maxpoll, burst, minsane, minleft⟩, rfl, ?_⟩
    constructor
    · have := bounds_i64 (hw 0 _ _ rfl rfl)
      dsimp only
      omega
    · have := bounds_i64 (hw 1 _ _ rfl rfl)
      dsimp only
      omega
    · have := bounds_i64 (hw 2 _ _ rfl rfl)
      dsimp only
      omega
    · have := bounds_i64 (hw 3 _ _ rfl rfl)
      dsimp only
      omega
    · have := bounds_i64 (hw 4 _ _ rfl rfl)
      dsimp only
      omega
    · have := bounds_i64 (hw 5 _ _ rfl rfl)
      dsimp only
      omega
    · have := bounds_i64 (hw 6 _ _ rfl rfl)
      dsimp only
      omega
    · have := bounds_i64 (hw 7 _ _ rfl rfl)
      dsimp only
      omega
    · have := bounds_i64 (hw 8 _ _ rfl rfl)
      dsimp only
      omega
    · have := bounds_i64 (hw 9 _ _ rfl rfl)
      dsimp only
      omega
    · have := bounds_i64 (hw 10 _ _ rfl rfl)
      dsimp only
      omega
    · have := bounds_i64 (hw 11 _ _ rfl rfl)
      dsimp only
      omega
set_option maxRecDepth 100000 in
theorem open_ask {H : Type} {enc : TypeId × Value → H} {w : World} {base : Nat} {spare : Nat → Bool} {held : Bool} {r : Reach} {b0 : Nat} {v : Value} {d : DataW H} {p : List MemPlace}
    (hv : Value.okWide Try.prog w r b0 26 v) (h : DataW.Trod enc Try.prog w base spare held 26 v d p) : ∃ h : Aq, v = h.val ∧ h.Typed := by
  obtain ⟨zs, hl, rfl, hw⟩ := open_int_fields [.i64, .u64, .u64] Try.underlying26 (by kernel_rfl) (by kernel_rfl) rfl (by
    intro i f hf
    match i, hf with
    | 0, hf => simp at hf; subst hf; exact ⟨.i64, rfl, Try.underlying3⟩
    | 1, hf => simp at hf; subst hf; exact ⟨.u64, rfl, Try.underlying24⟩
    | 2, hf => simp at hf; subst hf; exact ⟨.u64, rfl, Try.underlying24⟩
    | n + 3, hf => simp at hf) hv h
  match zs, hl with
  | [ver, pend, last], _ =>
    refine ⟨⟨ver, pend, last⟩, rfl, ?_⟩
    constructor
    · have := bounds_i64 (hw 0 _ _ rfl rfl)
      dsimp only
      omega
    · have := bounds_u64 (hw 1 _ _ rfl rfl)
      dsimp only
      omega
    · have := bounds_u64 (hw 2 _ _ rfl rfl)
      dsimp only
      omega
set_option maxRecDepth 100000 in
set_option maxHeartbeats 6400000 in
theorem shown12_any (w : World) : Calls Try.prog 8 #[] w fun e w' => e = .returned (.bool true) ∧ Below w.heap.size w w' := by
  have c1 := gstd_any
  have c2 := gcheck_any stdC std_typed
  have H := std_params
  have hd := std_dist
  generalize chkN stdC = n0 at *
  generalize chkE stdC = n1 at *
  generalize stdC.val = sv at *
  generalize chkP stdC = p at *
  have ta : Aq.Typed ⟨4, 9, 0⟩ := ⟨by decide, by decide, by decide⟩
  have th : Hd.Typed ⟨0, 4, 4, 1, 0, 0, 0, 0, 0, 0, 9, 5, 6⟩ := ⟨by decide, by decide, by decide, by decide, by decide, by decide, by decide, by decide, by decide, by decide, by decide, by decide, by decide⟩
  have ej : judgeI p ⟨4, 9, 0⟩ ⟨0, 4, 4, 1, 0, 0, 0, 0, 0, 0, 9, 5, 6⟩ = 0 := by
    unfold judgeI
    dsimp only
    rw [hd]
    decide
  have c3 := jtake_any p H.typed _ ta _ th
  have et : takeA p ⟨4, 9, 0⟩ ⟨0, 4, 4, 1, 0, 0, 0, 0, 0, 0, 9, 5, 6⟩ = ⟨4, 0, 6⟩ := by
    unfold takeA
    rw [ej]
    rfl
  rw [ej, et] at c3
  have c4 := jcause_any 121 (by decide) (by decide)
  rw [show causeI 121 = 4 from rfl] at c4
  unfold Pm.val at c2 c3
  unfold Aq.val Hd.val at c3
  dsimp only at c3
  clear ta th ej et H hd
  go_enter Try.func8, Try.ntmps8
  go_wp2_with fail
  (with_reducible refine (c1 _).mono ?_)
  rintro e w1 ⟨rfl, hB1⟩
  go_wp2_with fail
  (with_reducible refine (c2 _).mono ?_)
  rintro e w2 ⟨rfl, hB2⟩
  have hq2 := hB1.trans (hB2.mono hB1.size)
  have hq3 := hq2.alloc hq2.size (.cells #[.int .i64 p.step, .int .i64 p.watch, .int .i64 p.panic, .int .i64 p.maxrate, .int .i64 p.phi, .int .i64 p.maxdist, .int .i64 p.gate, .int .i64 p.minpoll, .int .i64 p.maxpoll, .int .i64 p.burst, .int .i64 p.minsane, .int .i64 p.minleft] 23)
  go_wp2_with fail
  (with_reducible refine (c3 _).mono ?_)
  generalize w2.alloc (.cells #[.int .i64 p.step, .int .i64 p.watch, .int .i64 p.panic, .int .i64 p.maxrate, .int .i64 p.phi, .int .i64 p.maxdist, .int .i64 p.gate, .int .i64 p.minpoll, .int .i64 p.maxpoll, .int .i64 p.burst, .int .i64 p.minsane, .int .i64 p.minleft] 23) = w3 at *
  rintro e w4 ⟨rfl, hB4⟩
  have hq4 := hq3.trans (hB4.mono hq3.size)
  have hq5 := hq4.alloc hq4.size (.cells #[.int .i64 4, .int .u64 0, .int .u64 6] 26)
  go_wp2_with fail
  (with_reducible refine (c4 _).mono ?_)
  generalize w4.alloc (.cells #[.int .i64 4, .int .u64 0, .int .u64 6] 26) = w5 at *
  rintro e w6 ⟨rfl, hB6⟩
  have hq6 := hq5.trans (hB6.mono hq5.size)
  go_wp2_with fail
  go_ret
  exact ⟨rfl, hq6⟩
end Go.Proofs.Ytjelbpibofngiaa.W
