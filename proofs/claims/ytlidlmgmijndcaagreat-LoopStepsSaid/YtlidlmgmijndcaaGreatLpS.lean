/- Layer 19 as numbers: when the clock is stepped. No program in it. -/
import Derived.Test.YtlidlmgmijndcaaGreatLpC
namespace Go.Proofs.YtlidlmgmijndcaaGreat.W
open Go.RowKit
set_option linter.unusedVariables false
/-- What holds between two offsets: since when all of them were far, if they were. -/
structure Stp (p : Pm) (known : Bool) (d : Dc) (S T : Int) (all : Bool) : Prop where
  ok : OkD p d
  s0 : 0 ≤ S ∧ S ≤ T
  spik : d.st = 2 → all = true ∧ S = d.at_
  else_ : d.st ≠ 2 → all = false
  fset : known = false → d.st ≠ 1
def farB (p : Pm) (o : Int) : Bool := decide (p.step < o) || decide (o < -p.step)
def firstB (d : Dc) : Bool := d.st == 0 || d.st == 1
theorem farB_is {p : Pm} (h : StdL p) {o : Int} (o0 : -9223372036854775808 ≤ o ∧ o ≤ 9223372036854775807) : farB p o = true ↔ p.step < absI o := by
  have := abs_far (T := p.step) o0 (by rw [h.step]; decide)
  unfold farB
  rw [Bool.or_eq_true, decide_eq_true_iff, decide_eq_true_iff]
  exact this.symm
theorem stp_start {p : Pm} (h : StdL p) (f : Int) (known : Bool) : Stp p known (startL p f known) 0 0 false := by
  refine ⟨start_ok h f known, by omega, ?_, fun _ => rfl, ?_⟩
  · cases known <;> (intro e; simp [startL, Dc.zero] at e)
  · rintro rfl
    simp [startL, Dc.zero]
theorem stp_later {p : Pm} {known : Bool} {d : Dc} {S T T' : Int} {all : Bool} (h : Stp p known d S T all) (hT : T ≤ T') : Stp p known d S T' all :=
  ⟨h.ok, by have := h.s0; omega, h.spik, h.else_, h.fset⟩
/-- What an offset may do. -/
structure Leaf (p : Pm) (known : Bool) (d : Dc) (S T : Int) (all : Bool) (o n : Int) (U : Upd) : Prop where
  it : (U = ⟨d, 0, 0, 190⟩ ∧ ((firstB d = true ∧ known = true) ∨ firstB d = false)) ∨
    (U.e = 0 ∧ farB p o = true ∧ firstB d = true ∧ all = false ∧ U.k = 2 ∧ Stp p known U.d T T false) ∨
    (U.e = 0 ∧ farB p o = true ∧ firstB d = false ∧ all = false ∧ U.k = 0 ∧ Stp p known U.d T T true) ∨
    (U.e = 0 ∧ farB p o = true ∧ firstB d = false ∧ all = true ∧ U.k = 0 ∧ Stp p known U.d S T true) ∨
    (U.e = 0 ∧ farB p o = true ∧ firstB d = false ∧ all = true ∧ U.k = 2 ∧ p.watch ≤ T - S ∧ Stp p known U.d S T false) ∨
    (U.e = 0 ∧ farB p o = false ∧ firstB d = true ∧ U.k = 1 ∧ Stp p known U.d S T false) ∨
    (U.e = 0 ∧ farB p o = false ∧ firstB d = false ∧ (U.k = 1 ∨ U.k = 0) ∧ Stp p known U.d S T false)
theorem gone_spik {d : Dc} {S T : Int} (h0 : 0 ≤ S ∧ S ≤ T) (hT : T ≤ 9223372036854775807) (h : S = d.at_) : goneL19 d T = T - S := by
  unfold goneL19 subI
  rw [← h, cutI_in _ (by omega) (by omega)]
  omega
theorem step_st (d : Dc) (a s : Int) : (stepL d a s).st = s := rfl
theorem take_st (d : Dc) (o a s : Int) : (takeL d o a s).st = s := rfl
theorem stp_off {p : Pm} {known : Bool} {e : Dc} {S T : Int} (ok : OkD p e) (h0 : 0 ≤ S ∧ S ≤ T) (h2 : e.st = 3 ∨ e.st = 4) : Stp p known e S T false :=
  ⟨ok, h0, fun h => by omega, fun _ => rfl, fun _ => by omega⟩
theorem leaf_is {p : Pm} (h : StdL p) {known : Bool} {d : Dc} {S T : Int} {all : Bool} (I : Stp p known d S T all) (hT : T ≤ 9223372036854775807) (o n : Int) (o0 : -9223372036854775808 ≤ o ∧ o ≤ 9223372036854775807) :
    Leaf p known d S T all o n (updL p d o T n) := by
  have T0 : -9223372036854775808 ≤ T ∧ T ≤ 9223372036854775807 := by have := I.s0; omega
  have hs := I.ok.st
  have hU := (upd_ok (n := n) h I.ok o0 T0).1
  have hf := farB_is h o0
  have c0 : 0 ≤ T ∧ T ≤ T := by have := I.s0; omega
  have hfst : firstB d = true ↔ d.st = 0 ∨ d.st = 1 := by unfold firstB; simp
  constructor
  by_cases hp : (1 ≤ d.st ∧ d.st ≤ 4) ∧ p.panic < absI o
  · refine .inl ⟨by unfold updL; rw [if_pos hp], ?_⟩
    by_cases g : d.st = 1
    · refine .inl ⟨hfst.2 (.inr g), ?_⟩
      cases hk : known with
      | true => rfl
      | false => exact absurd g (I.fset hk)
    · exact .inr (by rw [Bool.eq_false_iff]; intro e; have := hfst.1 e; omega)
  · by_cases f : p.step < absI o
    · have e : updL p d o T n = farL p d o T (goneL19 d T) := by unfold updL; rw [if_neg hp, if_pos f]
      have fb := hf.2 f
      rw [e] at hU ⊢
      unfold farL at hU ⊢
      by_cases g1 : d.st = 1
      · rw [if_pos g1] at hU ⊢
        exact .inr (.inl ⟨rfl, fb, hfst.2 (.inr g1), I.else_ (by omega), rfl, stp_off hU c0 (.inr rfl)⟩)
      rw [if_neg g1] at hU ⊢
      by_cases g2 : d.st = 3 ∨ d.st = 4
      · rw [if_pos g2] at hU ⊢
        refine .inr (.inr (.inl ⟨rfl, fb, ?_, I.else_ (by omega), rfl, ⟨hU, c0, fun _ => ⟨rfl, rfl⟩, fun k => absurd rfl k, fun _ => show (2 : Int) ≠ 1 by decide⟩⟩))
        rw [Bool.eq_false_iff]; intro e; have := hfst.1 e; omega
      rw [if_neg g2] at hU ⊢
      by_cases g3 : d.st = 2
      · have nf : firstB d = false := by rw [Bool.eq_false_iff]; intro e; have := hfst.1 e; omega
        obtain ⟨ha, hSd⟩ := I.spik g3
        have hg := gone_spik I.s0 hT hSd
        rw [if_pos g3] at hU ⊢
        by_cases g4 : goneL19 d T < p.watch
        · rw [if_pos g4] at hU ⊢
          exact .inr (.inr (.inr (.inl ⟨rfl, fb, nf, ha, rfl, ⟨hU, I.s0, fun _ => ⟨rfl, hSd⟩, fun k => absurd g3 k, fun _ => by omega⟩⟩)))
        · rw [if_neg g4] at hU ⊢
          exact .inr (.inr (.inr (.inr (.inl ⟨rfl, fb, nf, ha, rfl, by omega, stp_off hU I.s0 (.inr rfl)⟩))))
      rw [if_neg g3] at hU ⊢
      exact .inr (.inl ⟨rfl, fb, hfst.2 (.inl (by omega)), I.else_ (by omega), rfl, stp_off hU c0 (.inl rfl)⟩)
    · have e : updL p d o T n = nearL p d o T (goneL19 d T) n := by unfold updL; rw [if_neg hp, if_neg f]
      have fb : farB p o = false := by rw [Bool.eq_false_iff]; exact fun k => f (hf.1 k)
      rw [e] at hU ⊢
      unfold nearL at hU ⊢
      by_cases g1 : d.st = 1
      · rw [if_pos g1] at hU ⊢
        exact .inr (.inr (.inr (.inr (.inr (.inl ⟨rfl, fb, hfst.2 (.inr g1), rfl, stp_off hU I.s0 (.inr rfl)⟩)))))
      rw [if_neg g1] at hU ⊢
      by_cases g2 : d.st = 3
      · have nf : firstB d = false := by rw [Bool.eq_false_iff]; intro e; have := hfst.1 e; omega
        rw [if_pos g2] at hU ⊢
        by_cases g4 : goneL19 d T < p.watch
        · rw [if_pos g4] at hU ⊢
          exact .inr (.inr (.inr (.inr (.inr (.inr ⟨rfl, fb, nf, .inr rfl, stp_off hU I.s0 (.inl g2)⟩)))))
        · rw [if_neg g4] at hU ⊢
          exact .inr (.inr (.inr (.inr (.inr (.inr ⟨rfl, fb, nf, .inl rfl, stp_off hU I.s0 (.inr rfl)⟩)))))
      rw [if_neg g2] at hU ⊢
      by_cases g3 : d.st = 2 ∨ d.st = 4
      · have nf : firstB d = false := by rw [Bool.eq_false_iff]; intro e; have := hfst.1 e; omega
        rw [if_pos g3] at hU ⊢
        exact .inr (.inr (.inr (.inr (.inr (.inr ⟨rfl, fb, nf, .inl rfl, stp_off hU I.s0 (.inr rfl)⟩)))))
      rw [if_neg g3] at hU ⊢
      exact .inr (.inr (.inr (.inr (.inr (.inl ⟨rfl, fb, hfst.2 (.inl (by omega)), rfl, stp_off hU I.s0 (.inl rfl)⟩)))))
end Go.Proofs.YtlidlmgmijndcaaGreat.W
