import Derived.WalkKit
import Derived.Below
import Derived.Lib.Strings
import Derived.Laws.IdiomStrings
import Derived.Test.YtlidlmgmijndcaaGreatRows
import Derived.Test.YtlidlmgmijndcaaGreatWdefs
import Derived.WalkSpells
import Derived.WalkLawsBesides
import Derived.Lib.Hide
import Derived.Lib.Zigzag
import Derived.Handy
import Derived.OpenShut
import Derived.Deep.Fields
import Derived.ChangeOld
/- Texts as lists of bytes; numbers as so many bytes, the highest one first. No program in it. -/
namespace Go.Proofs.YtlidlmgmijndcaaGreat.W
open Go.RowKit
set_option linter.unusedVariables false
def bs (l : List UInt8) : ByteArray := ⟨l.toArray⟩
def b8 (x : Int) : UInt8 := UInt8.ofNat x.toNat
theorem bs_size (l : List UInt8) : (bs l).size = l.length := by simp [bs, ByteArray.size]
theorem bs_append (a b : List UInt8) : bs a ++ bs b = bs (a ++ b) := by
  unfold bs; exact ByteArray.mk_append_mk _ _
theorem bs_list (l : List UInt8) : (bs l).toList = l := by rw [Lib.toList_data]; simp [bs]
theorem bs_extract (l : List UInt8) (a b : Nat) : (bs l).extract a b = bs ((l.drop a).take (b - a)) := by
  rw [Lib.extract_eq]; simp [bs]
theorem bs_get (l : List UInt8) (i : Nat) (h : i < (bs l).size) : (bs l)[i] = l[i]'(by rw [bs_size] at h; exact h) := by
  show (bs l).data[i] = _
  simp [bs]
/-- A number's bytes, so many, the highest one first. -/
def be : Nat → Int → List UInt8
  | 0, _ => []
  | k + 1, n => b8 (n / 256 ^ k % 256) :: be k n
theorem be_length (k : Nat) (n : Int) : (be k n).length = k := by
  induction k with
  | zero => rfl
  | succ k ih => simp [be, ih]
end Go.Proofs.YtlidlmgmijndcaaGreat.W

/- Headers as records of whole numbers, and their bytes. No program in it. -/
namespace Go.Proofs.YtlidlmgmijndcaaGreat.W
open Go.RowKit
set_option linter.unusedVariables false
/-- Bytes a to b of a text. -/
def cut (l : List UInt8) (a b : Nat) : List UInt8 := (l.drop a).take (b - a)
def byteAt (l : List UInt8) (i : Nat) : Int := ((l.getD i 0).toNat : Int)
theorem bs_at (l : List UInt8) (i : Nat) (h : i < (bs l).size) : (((bs l)[i]'h).toNat : Int) = byteAt l i := by
  have h' : i < l.length := by rw [bs_size] at h; exact h
  unfold byteAt
  rw [bs_get, List.getD_eq_getElem?_getD, List.getElem?_eq_getElem h', Option.getD_some]
theorem bs_cut (l : List UInt8) (a b : Nat) : (bs l).extract a b = bs (cut l a b) := bs_extract l a b
theorem cut_len (l : List UInt8) (a b : Nat) : (cut l a b).length = min (b - a) (l.length - a) := by
  unfold cut; rw [List.length_take, List.length_drop]
theorem cut_end (l : List UInt8) (a : Nat) : cut l a l.length = l.drop a := by
  unfold cut; rw [List.take_of_length_le (by rw [List.length_drop]; omega)]
end Go.Proofs.YtlidlmgmijndcaaGreat.W

/- The document's own answers of layer 5, walked: bytes of numbers and back. -/
namespace Go.Proofs.YtlidlmgmijndcaaGreat.W
open Go.RowKit
set_option linter.unusedVariables false
set_option linter.unusedSimpArgs false
attribute [go_sem] bs_size bs_append be_length
end Go.Proofs.YtlidlmgmijndcaaGreat.W

/- Bytes and parts of a text, as the walks ask for them. -/
namespace Go.Proofs.YtlidlmgmijndcaaGreat.W
open Go.RowKit
set_option linter.unusedVariables false
set_option linter.unusedSimpArgs false
attribute [go_sem] bs_at bs_cut cut_len cut_end bs_list
end Go.Proofs.YtlidlmgmijndcaaGreat.W

/- A header that came in as an argument, opened. -/
namespace Go.Proofs.YtlidlmgmijndcaaGreat.W
open Go.RowKit Go.ChangeShapes Go.WideShapes
set_option linter.unusedVariables false
section
variable {H : Type} {enc : TypeId × Value → H} {P : Program} {w : World} {base : Nat} {spare : Nat → Bool} {held : Bool}
set_option maxRecDepth 100000 in
theorem open_int_fields {r : Reach} {b0 : Nat} {t : TypeId} {fs : Array Field} {v : Value} {d : DataW H} {p : List MemPlace} (ks : List IntKind) (hs : P.underlying t = some (.struct fs)) (hone : Deep.oneCellFields P fs = true) (hC : P.cellsOf t = ks.length)
    (hfs : fs.size = ks.length) (hk : ∀ (i : Nat) (f : Field), fs[i]? = some f → ∃ k, ks[i]? = some k ∧ P.underlying f.type = some (.int k))
    (hv : Value.okWide P w r b0 t v) (h : DataW.Trod enc P w base spare held t v d p) :
    ∃ zs : List Int, zs.length = ks.length ∧ v = .agg (List.zipWith Value.int ks zs).toArray ∧ ∀ (i : Nat) (k : IntKind) (n : Int), ks[i]? = some k → zs[i]? = some n → (Lit.int k n).wf = true := by
  obtain ⟨cs, rfl, hsz⟩ := okWide_struct hs hv
  obtain ⟨fuel, hf⟩ := h
  obtain ⟨xs, n, _, hx, _, hlen, hg⟩ := DataW.trod_struct hs hf
  have each : ∀ i (hi : i < cs.size), ∃ k m, ks[i]? = some k ∧ cs[i] = .int k m ∧ (Lit.int k m).wf = true := by
    intro i hi
    have hif : i < fs.size := by omega
    obtain ⟨k, hk1, hk2⟩ := hk i fs[i] (by simp [hif])
    obtain ⟨o, c1⟩ := Deep.hone_of hone i fs[i] (by simp [hif])
    have g := hg i fs[i] (by simp [hif])
    rw [o, c1] at g
    have e1 : (cs.toList.drop i).take 1 = [cs[i]] := by
      rw [List.drop_eq_getElem_cons (by simpa using hi)]
      simp
    simp only [Value.cells] at g
    rw [e1] at g
    have hxi : xs[i]? = some (xs[i]'(by omega)) := by simp [hlen, hif]
    rw [hxi] at g
    obtain ⟨m, hm, _, hw⟩ := DataW.trod_int hk2 g
    exact ⟨k, m, hk1, by simpa using hm, hw⟩
  refine ⟨cs.toList.map intOf, by simp; omega, ?_, ?_⟩
  · congr 1
    apply Array.ext
    · simp; omega
    · intro i h1 h2
      obtain ⟨k, m, hk1, hm, _⟩ := each i h1
      have hk3 := (List.getElem?_eq_some_iff.1 hk1).2
      simp [hm, intOf, hk3]
  · intro i k n hk1 hn
    have hi : i < cs.size := by
      have := (List.getElem?_eq_some_iff.1 hn).1
      simpa using this
    obtain ⟨k', m, hk2, hm, hw⟩ := each i hi
    rw [hk1] at hk2
    simp at hk2
    subst hk2
    simp [hi, hm, intOf] at hn
    subst hn
    exact hw
end
end Go.Proofs.YtlidlmgmijndcaaGreat.W

