/- Layer 9's disk by contracts, as the laws ask for them. -/
import Derived.Test.YtcfdggeoecdnnaaDrJ
namespace Go.Proofs.Ytcfdggeoecdnnaa.W
open Go.RowKit Go.Sort
set_option linter.unusedVariables false
theorem kdead_any {F : Nat → Prop} {p : Nat} {d : Dk} (ok : d.Ok) (w : World) (h : DkIn F w p d) :
    Calls Try.prog 13 #[.pointer (some ⟨p, 0, none⟩)] w fun e w' => e = .returned (.bool d.off) ∧ Below w.heap.size w w' :=
  (kdead_w ok w h).mono fun e w' h => ⟨h.1, h.2 ▸ Below.refl _ _⟩
theorem kpack_any (q f : Int) (q0 : 0 ≤ q) (q1 : q < 4294967296) (f0 : -9223372036854775808 ≤ f) (f1 : f ≤ 9223372036854775807) (w : World) :
    Calls Try.prog 15 #[.int .u32 q, .int .i64 f] w fun e w' => e = .returned (.string (bs (pack q f))) ∧ Below w.heap.size w w' := pack_any q f q0 q1 f0 f1 w
theorem kslots_any {F : Nat → Prop} {p : Nat} {d : Dk} (ok : d.Ok) (w : World) (h : DkIn F w p d) :
    Calls Try.prog 14 #[.pointer (some ⟨p, 0, none⟩)] w fun e w' => e = .returned (.agg #[.bool (slA d.s).whole, .int .u32 (slA d.s).seq, .int .i64 (slA d.s).freq, .bool (slB d.s).whole, .int .u32 (slB d.s).seq, .int .i64 (slB d.s).freq]) ∧ Below w.heap.size w w' := kslots_w ok w h
end Go.Proofs.Ytcfdggeoecdnnaa.W
