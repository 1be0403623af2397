import Derived.WalkKit
import Derived.Below
import Derived.Lib.Strings
import Derived.Laws.IdiomStrings
import Derived.Test.YtlpcoaohgcgkiaaGreatRows
import Derived.Test.YtlpcoaohgcgkiaaGreatWdefs
import Derived.WalkSpells
import Derived.WalkLawsBesides
import Derived.Lib.Hide
import Derived.Lib.Zigzag
import Derived.Handy
import Derived.Lib.QuietBelow
import Derived.BigQuiet
import Derived.OpenShut
import Derived.Deep.Fields
import Derived.ChangeOld
/- Texts as lists of bytes; numbers as so many bytes, the highest one first. No program in it. -/
namespace Go.Proofs.YtlpcoaohgcgkiaaGreat.W
open Go.RowKit
set_option linter.unusedVariables false
def bs (l : List UInt8) : ByteArray := ⟨l.toArray⟩
def b8 (x : Int) : UInt8 := UInt8.ofNat x.toNat
theorem bs_size (l : List UInt8) : (bs l).size = l.length := by simp [bs, ByteArray.size]
theorem bs_append (a b : List UInt8) : bs a ++ bs b = bs (a ++ b) := by
  unfold bs; exact ByteArray.mk_append_mk _ _
theorem bs_list (l : List UInt8) : (bs l).toList = l := by rw [Lib.toList_data]; simp [bs]
theorem bs_extract (l : List UInt8) (a b : Nat) : (bs l).extract a b = bs ((l.drop a).take (b - a)) := by
  rw [Lib.extract_eq]; simp [bs]
theorem bs_get (l : List UInt8) (i : Nat) (h : i < (bs l).size) : (bs l)[i] = l[i]'(by rw [bs_size] at h; exact h) := by
  show (bs l).data[i] = _
  simp [bs]
/-- A number's bytes, so many, the highest one first. -/
def be : Nat → Int → List UInt8
  | 0, _ => []
  | k + 1, n => b8 (n / 256 ^ k % 256) :: be k n
theorem be_length (k : Nat) (n : Int) : (be k n).length = k := by
  induction k with
  | zero => rfl
  | succ k ih => simp [be, ih]
end Go.Proofs.YtlpcoaohgcgkiaaGreat.W

/- Headers as records of whole numbers, and their bytes. No program in it. -/
namespace Go.Proofs.YtlpcoaohgcgkiaaGreat.W
open Go.RowKit
set_option linter.unusedVariables false
structure Hd where
  leap : Int
  ver : Int
  mode : Int
  str : Int
  poll : Int
  prec : Int
  rdel : Int
  rdis : Int
  ref : Int
  reft : Int
  org : Int
  rcv : Int
  tx : Int
/-- What its types let a header be. -/
structure Hd.Typed (h : Hd) : Prop where
  leap : -9223372036854775808 ≤ h.leap ∧ h.leap ≤ 9223372036854775807
  ver : -9223372036854775808 ≤ h.ver ∧ h.ver ≤ 9223372036854775807
  mode : -9223372036854775808 ≤ h.mode ∧ h.mode ≤ 9223372036854775807
  str : -9223372036854775808 ≤ h.str ∧ h.str ≤ 9223372036854775807
  poll : -9223372036854775808 ≤ h.poll ∧ h.poll ≤ 9223372036854775807
  prec : -9223372036854775808 ≤ h.prec ∧ h.prec ≤ 9223372036854775807
  rdel : 0 ≤ h.rdel ∧ h.rdel < 4294967296
  rdis : 0 ≤ h.rdis ∧ h.rdis < 4294967296
  ref : 0 ≤ h.ref ∧ h.ref < 4294967296
  reft : 0 ≤ h.reft ∧ h.reft < 18446744073709551616
  org : 0 ≤ h.org ∧ h.org < 18446744073709551616
  rcv : 0 ≤ h.rcv ∧ h.rcv < 18446744073709551616
  tx : 0 ≤ h.tx ∧ h.tx < 18446744073709551616
/-- What a header may be. -/
structure Hd.Fit (h : Hd) : Prop where
  leap : 0 ≤ h.leap ∧ h.leap ≤ 3
  ver : 1 ≤ h.ver ∧ h.ver ≤ 4
  mode : 0 ≤ h.mode ∧ h.mode ≤ 7
  str : 0 ≤ h.str ∧ h.str ≤ 255
  poll : -128 ≤ h.poll ∧ h.poll ≤ 127
  prec : -128 ≤ h.prec ∧ h.prec ≤ 127
def inB (n a b : Int) : Bool := decide (a ≤ n) && decide (n ≤ b)
def Hd.may (h : Hd) : Bool := inB h.leap 0 3 && inB h.ver 1 4 && inB h.mode 0 7 && inB h.str 0 255 && inB h.poll (-128) 127 && inB h.prec (-128) 127
theorem Hd.may_fit {h : Hd} (m : h.may = true) : h.Fit := by
  unfold Hd.may inB at m
  simp at m
  exact ⟨by omega, by omega, by omega, by omega, by omega, by omega⟩
theorem Hd.Fit.may {h : Hd} (f : h.Fit) : h.may = true := by
  unfold Hd.may inB
  simp
  exact ⟨⟨⟨⟨⟨f.leap, f.ver⟩, f.mode⟩, f.str⟩, f.poll⟩, f.prec⟩
def Hd.zero : Hd := ⟨0, 0, 0, 0, 0, 0, 0, 0, 0, 0, 0, 0, 0⟩
/-- As the program has it. -/
def Hd.val (h : Hd) : Value := .agg #[.int .i64 h.leap, .int .i64 h.ver, .int .i64 h.mode, .int .i64 h.str, .int .i64 h.poll, .int .i64 h.prec, .int .u32 h.rdel, .int .u32 h.rdis, .int .u32 h.ref, .int .u64 h.reft, .int .u64 h.org, .int .u64 h.rcv, .int .u64 h.tx]
theorem Hd.val_inj {h k : Hd} (e : h.val = k.val) : h = k := by
  cases h; cases k
  simp [Hd.val] at e
  simp [e]
/-- Its bytes. -/
def Hd.enc (h : Hd) : List UInt8 :=
  be 1 (64 * h.leap + 8 * h.ver + h.mode) ++ be 1 h.str ++ be 1 (h.poll % 256) ++ be 1 (h.prec % 256) ++ be 4 h.rdel ++ be 4 h.rdis ++ be 4 h.ref ++ be 8 h.reft ++ be 8 h.org ++ be 8 h.rcv ++ be 8 h.tx
theorem Hd.enc_length (h : Hd) : h.enc.length = 48 := by simp [Hd.enc, be_length]
/-- Bytes a to b of a text. -/
def cut (l : List UInt8) (a b : Nat) : List UInt8 := (l.drop a).take (b - a)
def byteAt (l : List UInt8) (i : Nat) : Int := ((l.getD i 0).toNat : Int)
theorem bs_at (l : List UInt8) (i : Nat) (h : i < (bs l).size) : (((bs l)[i]'h).toNat : Int) = byteAt l i := by
  have h' : i < l.length := by rw [bs_size] at h; exact h
  unfold byteAt
  rw [bs_get, List.getD_eq_getElem?_getD, List.getElem?_eq_getElem h', Option.getD_some]
theorem bs_cut (l : List UInt8) (a b : Nat) : (bs l).extract a b = bs (cut l a b) := bs_extract l a b
theorem cut_len (l : List UInt8) (a b : Nat) : (cut l a b).length = min (b - a) (l.length - a) := by
  unfold cut; rw [List.length_take, List.length_drop]
theorem cut_end (l : List UInt8) (a : Nat) : cut l a l.length = l.drop a := by
  unfold cut; rw [List.take_of_length_le (by rw [List.length_drop]; omega)]
end Go.Proofs.YtlpcoaohgcgkiaaGreat.W

/- The document's own answers of layer 5, walked: bytes of numbers and back. -/
namespace Go.Proofs.YtlpcoaohgcgkiaaGreat.W
open Go.RowKit
set_option linter.unusedVariables false
set_option linter.unusedSimpArgs false
attribute [go_sem] bs_size bs_append be_length
end Go.Proofs.YtlpcoaohgcgkiaaGreat.W

/- Bytes and parts of a text, as the walks ask for them. -/
namespace Go.Proofs.YtlpcoaohgcgkiaaGreat.W
open Go.RowKit
set_option linter.unusedVariables false
set_option linter.unusedSimpArgs false
attribute [go_sem] bs_at bs_cut cut_len cut_end bs_list
end Go.Proofs.YtlpcoaohgcgkiaaGreat.W

/- The document's own answers of layer 5, walked: headers. -/
namespace Go.Proofs.YtlpcoaohgcgkiaaGreat.W
open Go.RowKit Go.Sort
set_option linter.unusedVariables false
set_option linter.unusedSimpArgs false
def Hd.encS (h : Hd) : List UInt8 := if h.may then h.enc else []
def Hd.encE (h : Hd) : Int := if h.may then 0 else 1
end Go.Proofs.YtlpcoaohgcgkiaaGreat.W

/- A header that came in as an argument, opened. -/
namespace Go.Proofs.YtlpcoaohgcgkiaaGreat.W
open Go.RowKit Go.ChangeShapes Go.WideShapes
set_option linter.unusedVariables false
section
variable {H : Type} {enc : TypeId × Value → H} {P : Program} {w : World} {base : Nat} {spare : Nat → Bool} {held : Bool}
set_option maxRecDepth 100000 in
theorem open_int_fields {r : Reach} {b0 : Nat} {t : TypeId} {fs : Array Field} {v : Value} {d : DataW H} {p : List MemPlace} (ks : List IntKind) (hs : P.underlying t = some (.struct fs)) (hone : Deep.oneCellFields P fs = true) (hC : P.cellsOf t = ks.length)
    (hfs : fs.size = ks.length) (hk : ∀ (i : Nat) (f : Field), fs[i]? = some f → ∃ k, ks[i]? = some k ∧ P.underlying f.type = some (.int k))
    (hv : Value.okWide P w r b0 t v) (h : DataW.Trod enc P w base spare held t v d p) :
    ∃ zs : List Int, zs.length = ks.length ∧ v = .agg (List.zipWith Value.int ks zs).toArray ∧ ∀ (i : Nat) (k : IntKind) (n : Int), ks[i]? = some k → zs[i]? = some n → (Lit.int k n).wf = true := by
  obtain ⟨cs, rfl, hsz⟩ := okWide_struct hs hv
  obtain ⟨fuel, hf⟩ := h
  obtain ⟨xs, n, _, hx, _, hlen, hg⟩ := DataW.trod_struct hs hf
  have each : ∀ i (hi : i < cs.size), ∃ k m, ks[i]? = some k ∧ cs[i] = .int k m ∧ (Lit.int k m).wf = true := by
    intro i hi
    have hif : i < fs.size := by omega
    obtain ⟨k, hk1, hk2⟩ := hk i fs[i] (by simp [hif])
    obtain ⟨o, c1⟩ := Deep.hone_of hone i fs[i] (by simp [hif])
    have g := hg i fs[i] (by simp [hif])
    rw [o, c1] at g
    have e1 : (cs.toList.drop i).take 1 = [cs[i]] := by
      rw [List.drop_eq_getElem_cons (by simpa using hi)]
      simp
    simp only [Value.cells] at g
    rw [e1] at g
    have hxi : xs[i]? = some (xs[i]'(by omega)) := by simp [hlen, hif]
    rw [hxi] at g
    obtain ⟨m, hm, _, hw⟩ := DataW.trod_int hk2 g
    exact ⟨k, m, hk1, by simpa using hm, hw⟩
  refine ⟨cs.toList.map intOf, by simp; omega, ?_, ?_⟩
  · congr 1
    apply Array.ext
    · simp; omega
    · intro i h1 h2
      obtain ⟨k, m, hk1, hm, _⟩ := each i h1
      have hk3 := (List.getElem?_eq_some_iff.1 hk1).2
      simp [hm, intOf, hk3]
  · intro i k n hk1 hn
    have hi : i < cs.size := by
      have := (List.getElem?_eq_some_iff.1 hn).1
      simpa using this
    obtain ⟨k', m, hk2, hm, hw⟩ := each i hi
    rw [hk1] at hk2
    simp at hk2
    subst hk2
    simp [hi, hm, intOf] at hn
    subst hn
    exact hw
end
set_option maxRecDepth 100000 in
theorem open_hdr {H : Type} {enc : TypeId × Value → H} {w : World} {base : Nat} {spare : Nat → Bool} {held : Bool} {r : Reach} {b0 : Nat} {v : Value} {d : DataW H} {p : List MemPlace}
    (hv : Value.okWide Tryz.prog w r b0 27 v) (h : DataW.Trod enc Tryz.prog w base spare held 27 v d p) : ∃ h : Hd, v = h.val ∧ h.Typed := by
  obtain ⟨zs, hl, rfl, hw⟩ := open_int_fields [.i64, .i64, .i64, .i64, .i64, .i64, .u32, .u32, .u32, .u64, .u64, .u64, .u64] Tryz.underlying27 (by kernel_rfl) (by kernel_rfl) rfl (by
    intro i f hf
    match i, hf with
    | 0, hf => simp at hf; subst hf; exact ⟨.i64, rfl, Tryz.underlying3⟩
    | 1, hf => simp at hf; subst hf; exact ⟨.i64, rfl, Tryz.underlying3⟩
    | 2, hf => simp at hf; subst hf; exact ⟨.i64, rfl, Tryz.underlying3⟩
    | 3, hf => simp at hf; subst hf; exact ⟨.i64, rfl, Tryz.underlying3⟩
    | 4, hf => simp at hf; subst hf; exact ⟨.i64, rfl, Tryz.underlying3⟩
    | 5, hf => simp at hf; subst hf; exact ⟨.i64, rfl, Tryz.underlying3⟩
    | 6, hf => simp at hf; subst hf; exact ⟨.u32, rfl, Tryz.underlying24⟩
    | 7, hf => simp at hf; subst hf; exact ⟨.u32, rfl, Tryz.underlying24⟩
    | 8, hf => simp at hf; subst hf; exact ⟨.u32, rfl, Tryz.underlying24⟩
    | 9, hf => simp at hf; subst hf; exact ⟨.u64, rfl, Tryz.underlying25⟩
    | 10, hf => simp at hf; subst hf; exact ⟨.u64, rfl, Tryz.underlying25⟩
    | 11, hf => simp at hf; subst hf; exact ⟨.u64, rfl, Tryz.underlying25⟩
    | 12, hf => simp at hf; subst hf; exact ⟨.u64, rfl, Tryz.underlying25⟩
    | n + 13, hf => simp at hf) hv h
  match zs, hl with
  | [leap, ver, mode, str, poll, prec, rdel, rdis, ref, reft, org, rcv, tx], _ => exact ⟨⟨leap, ver, mode, str, poll, prec, rdel, rdis, ref, reft, org, rcv, tx⟩, rfl, ⟨by have := bounds_i64 (hw 0 _ _ rfl rfl); omega, by have := bounds_i64 (hw 1 _ _ rfl rfl); omega, by have := bounds_i64 (hw 2 _ _ rfl rfl); omega, by have := bounds_i64 (hw 3 _ _ rfl rfl); omega, by have := bounds_i64 (hw 4 _ _ rfl rfl); omega, by have := bounds_i64 (hw 5 _ _ rfl rfl); omega, by have := bounds_u32 (hw 6 _ _ rfl rfl); show (0 : Int) ≤ rdel ∧ rdel < 4294967296; omega, by have := bounds_u32 (hw 7 _ _ rfl rfl); show (0 : Int) ≤ rdis ∧ rdis < 4294967296; omega, by have := bounds_u32 (hw 8 _ _ rfl rfl); show (0 : Int) ≤ ref ∧ ref < 4294967296; omega, by have := bounds_u64 (hw 9 _ _ rfl rfl); show (0 : Int) ≤ reft ∧ reft < 18446744073709551616; omega, by have := bounds_u64 (hw 10 _ _ rfl rfl); show (0 : Int) ≤ org ∧ org < 18446744073709551616; omega, by have := bounds_u64 (hw 11 _ _ rfl rfl); show (0 : Int) ≤ rcv ∧ rcv < 18446744073709551616; omega, by have := bounds_u64 (hw 12 _ _ rfl rfl); show (0 : Int) ≤ tx ∧ tx < 18446744073709551616; omega⟩⟩
end Go.Proofs.YtlpcoaohgcgkiaaGreat.W

