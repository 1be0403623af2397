/- A header that came in as an argument, opened. -/
import Derived.Test.YtjelbpibofngiaaRows
import Derived.Test.YtjelbpibofngiaaHdB
import Derived.OpenShut
import Derived.Deep.Fields
import Derived.ChangeOld
import Derived.WalkKit
namespace Go.Proofs.Ytjelbpibofngiaa.W
open Go.RowKit Go.ChangeShapes Go.WideShapes
set_option linter.unusedVariables false
section
variable {H : Type} {enc : TypeId × Value → H} {P : Program} {w : World} {base : Nat} {spare : Nat → Bool} {held : Bool}
set_option maxRecDepth 100000 in
theorem open_int_fields {r : Reach} {b0 : Nat} {t : TypeId} {fs : Array Field} {v : Value} {d : DataW H} {p : List MemPlace} (ks : List IntKind) (hs : P.underlying t = some (.struct fs)) (hone : Deep.oneCellFields P fs = true) (hC : P.cellsOf t = ks.length)
    (hfs : fs.size = ks.length) (hk : ∀ (i : Nat) (f : Field), fs[i]? = some f → ∃ k, ks[i]? = some k ∧ P.underlying f.type = some (.int k))
    (hv : Value.okWide P w r b0 t v) (h : DataW.Trod enc P w base spare held t v d p) :
    ∃ zs : List Int, zs.length = ks.length ∧ v = .agg (List.zipWith Value.int ks zs).toArray ∧ ∀ (i : Nat) (k : IntKind) (n : Int), ks[i]? = some k → zs[i]? = some n → (Lit.int k n).wf = true := by
  obtain ⟨cs, rfl, hsz⟩ := okWide_struct hs hv
  obtain ⟨fuel, hf⟩ := h
  obtain ⟨xs, n, _, hx, _, hlen, hg⟩ := DataW.trod_struct hs hf
  have each : ∀ i (hi : i < cs.size), ∃ k m, ks[i]? = some k ∧ cs[i] = .int k m ∧ (Lit.int k m).wf = true := by
    intro i hi
    have hif : i < fs.size := by omega
    obtain ⟨k, hk1, hk2⟩ := hk i fs[i] (by simp [hif])
    obtain ⟨o, c1⟩ := Deep.hone_of hone i fs[i] (by simp [hif])
    have g := hg i fs[i] (by simp [hif])
    rw [o, c1] at g
    have e1 : (cs.toList.drop i).take 1 = [cs[i]] := by
      rw [List.drop_eq_getElem_cons (by simpa using hi)]
      simp
    simp only [Value.cells] at g
    rw [e1] at g
    have hxi : xs[i]? = some (xs[i]'(by omega)) := by simp [hlen, hif]
    rw [hxi] at g
    obtain ⟨m, hm, _, hw⟩ := DataW.trod_int hk2 g
    exact ⟨k, m, hk1, by simpa using hm, hw⟩
  refine ⟨cs.toList.map intOf, by simp; omega, ?_, ?_⟩
  · congr 1
    apply Array.ext
    · simp; omega
    · intro i h1 h2
      obtain ⟨k, m, hk1, hm, _⟩ := each i h1
      have hk3 := (List.getElem?_eq_some_iff.1 hk1).2
      simp [hm, intOf, hk3]
  · intro i k n hk1 hn
    have hi : i < cs.size := by
      have := (List.getElem?_eq_some_iff.1 hn).1
      simpa using this
    obtain ⟨k', m, hk2, hm, hw⟩ := each i hi
    rw [hk1] at hk2
    simp at hk2
    subst hk2
    simp [hi, hm, intOf] at hn
    subst hn
    exact hw
end
set_option maxRecDepth 100000 in
theorem open_hdr {H : Type} {enc : TypeId × Value → H} {w : World} {base : Nat} {spare : Nat → Bool} {held : Bool} {r : Reach} {b0 : Nat} {v : Value} {d : DataW H} {p : List MemPlace}
    (hv : Value.okWide Try.prog w r b0 29 v) (h : DataW.Trod enc Try.prog w base spare held 29 v d p) : ∃ h : Hd, v = h.val ∧ h.Typed := by
  obtain ⟨zs, hl, rfl, hw⟩ := open_int_fields [.i64, .i64, .i64, .i64, .i64, .i64, .u32, .u32, .u32, .u64, .u64, .u64, .u64] Try.underlying29 (by kernel_rfl) (by kernel_rfl) rfl (by
    intro i f hf
    match i, hf with
    | 0, hf => simp at hf; subst hf; exact ⟨.i64, rfl, Try.underlying3⟩
    | 1, hf => simp at hf; subst hf; exact ⟨.i64, rfl, Try.underlying3⟩
    | 2, hf => simp at hf; subst hf; exact ⟨.i64, rfl, Try.underlying3⟩
    | 3, hf => simp at hf; subst hf; exact ⟨.i64, rfl, Try.underlying3⟩
    | 4, hf => simp at hf; subst hf; exact ⟨.i64, rfl, Try.underlying3⟩
    | 5, hf => simp at hf; subst hf; exact ⟨.i64, rfl, Try.underlying3⟩
    | 6, hf => simp at hf; subst hf; exact ⟨.u32, rfl, Try.underlying27⟩
    | 7, hf => simp at hf; subst hf; exact ⟨.u32, rfl, Try.underlying27⟩
    | 8, hf => simp at hf; subst hf; exact ⟨.u32, rfl, Try.underlying27⟩
    | 9, hf => simp at hf; subst hf; exact ⟨.u64, rfl, Try.underlying24⟩
    | 10, hf => simp at hf; subst hf; exact ⟨.u64, rfl, Try.underlying24⟩
    | 11, hf => simp at hf; subst hf; exact ⟨.u64, rfl, Try.underlying24⟩
    | 12, hf => simp at hf; subst hf; exact ⟨.u64, rfl, Try.underlying24⟩
    | n + 13, hf => simp at hf) hv h
  match zs, hl with
  | [leap, ver, mode, str, poll, prec, rdel, rdis, ref, reft, org, rcv, tx], _ => exact ⟨⟨leap, ver, mode, str, poll, prec, rdel, rdis, ref, reft, org, rcv, tx⟩, rfl, ⟨by have := bounds_i64 (hw 0 _ _ rfl rfl); omega, by have := bounds_i64 (hw 1 _ _ rfl rfl); omega, by have := bounds_i64 (hw 2 _ _ rfl rfl); omega, by have := bounds_i64 (hw 3 _ _ rfl rfl); omega, by have := bounds_i64 (hw 4 _ _ rfl rfl); omega, by have := bounds_i64 (hw 5 _ _ rfl rfl); omega, by have := bounds_u32 (hw 6 _ _ rfl rfl); show (0 : Int) ≤ rdel ∧ rdel < 4294967296; omega, by have := bounds_u32 (hw 7 _ _ rfl rfl); show (0 : Int) ≤ rdis ∧ rdis < 4294967296; omega, by have := bounds_u32 (hw 8 _ _ rfl rfl); show (0 : Int) ≤ ref ∧ ref < 4294967296; omega, by have := bounds_u64 (hw 9 _ _ rfl rfl); show (0 : Int) ≤ reft ∧ reft < 18446744073709551616; omega, by have := bounds_u64 (hw 10 _ _ rfl rfl); show (0 : Int) ≤ org ∧ org < 18446744073709551616; omega, by have := bounds_u64 (hw 11 _ _ rfl rfl); show (0 : Int) ≤ rcv ∧ rcv < 18446744073709551616; omega, by have := bounds_u64 (hw 12 _ _ rfl rfl); show (0 : Int) ≤ tx ∧ tx < 18446744073709551616; omega⟩⟩
end Go.Proofs.Ytjelbpibofngiaa.W
