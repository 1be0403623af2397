/- What the laws of layer 9 call besides: a disk of the code's; the small case that must go well. -/
import Derived.Test.YtcfdggeoecdnnaaDrX
import Derived.Test.YtcfdggeoecdnnaaWdefs
import Derived.WalkKit
import Derived.OwnWalk
namespace Go.Proofs.Ytcfdggeoecdnnaa.W
open Go.RowKit Go.Sort
set_option linter.unusedVariables false
set_option linter.unusedSimpArgs false
theorem DkIn.below {F : Nat → Prop} {w w' : World} {p : Nat} {d : Dk} (h : DkIn F w p d) (t : Below w.heap.size w w') : DkIn F w' p d :=
  h.kept (Touch.of_below (fun _ => False) t) (fun _ _ e => e)
structure OneD (w0 w : World) (p : Nat) (d : Dk) : Prop where
  one : ∃ F, DkIn F w p d ∧ (∀ k, F k → w0.heap.size ≤ k)
  below : Below w0.heap.size w0 w
  ok : d.Ok
theorem OneD.kept {w0 w w' : World} {p : Nat} {d : Dk} (h : OneD w0 w p d) (t : Below w.heap.size w w') : OneD w0 w' p d := by
  obtain ⟨⟨F, h1, h2⟩, hB, ok⟩ := h
  exact ⟨⟨F, h1.below t, h2⟩, hB.trans (t.mono hB.size), ok⟩
theorem OneD.step {w0 w w' : World} {p : Nat} {d' : Dk} {F : Nat → Prop} (hF : ∀ k, F k → w0.heap.size ≤ k) (hB : Below w0.heap.size w0 w) (t : Touch F w w') (h : DkIn (Gr F w w') w' p d') (ok : d'.Ok) : OneD w0 w' p d' := by
  refine ⟨⟨_, h, ?_⟩, t.below hB hB.size hF, ok⟩
  rintro k (hk | hk)
  · exact hF k hk
  · have := hB.size
    omega
theorem dnew_any (s : List UInt8) (hs : s.length ≤ 1000000) (w0 w : World) (h : Below w0.heap.size w0 w) :
    Calls Try.prog 8 #[.string (bs s)] w fun e w' => ∃ p, e = .returned (.pointer (some ⟨p, 0, none⟩)) ∧ OneD w0 w' p (newD s) ∧ Below w.heap.size w w' :=
  (knew_any s hs w).mono fun e w' ⟨p, he, hC, hB⟩ => ⟨p, he, ⟨⟨_, hC, fun k hk => Nat.le_trans h.size hk.1⟩, h.trans (hB.mono h.size), newD_ok s⟩, hB⟩
theorem dbytes_any {w0 w : World} {p : Nat} {d : Dk} (h : OneD w0 w p d) :
    Calls Try.prog 12 #[.pointer (some ⟨p, 0, none⟩)] w fun e w' => e = .returned (.string (bs d.s)) ∧ Below w.heap.size w w' := by
  obtain ⟨F, h1, _⟩ := h.one
  exact kbytes_any h.ok w h1
theorem ddead_any {w0 w : World} {p : Nat} {d : Dk} (h : OneD w0 w p d) :
    Calls Try.prog 13 #[.pointer (some ⟨p, 0, none⟩)] w fun e w' => e = .returned (.bool d.off) ∧ Below w.heap.size w w' := by
  obtain ⟨F, h1, _⟩ := h.one
  exact kdead_any h.ok w h1
theorem dcut_any {w0 w : World} {p : Nat} {d : Dk} (n : Int) (n0 : -9223372036854775808 ≤ n) (n1 : n ≤ 9223372036854775807) (h : OneD w0 w p d) :
    Calls Try.prog 11 #[.pointer (some ⟨p, 0, none⟩), .int .i64 n] w fun e w' => e = .returned (.tuple #[]) ∧ OneD w0 w' p (cutD d n) := by
  obtain ⟨F, h1, h2⟩ := h.one
  exact (kcut_any h.ok n n0 n1 w h1).mono fun e w' ⟨he, hC, t⟩ => ⟨he, OneD.step h2 h.below t hC (cut_ok h.ok n n1)⟩
theorem dslots_any {w0 w : World} {p : Nat} {d : Dk} (h : OneD w0 w p d) :
    Calls Try.prog 14 #[.pointer (some ⟨p, 0, none⟩)] w fun e w' => e = .returned (.agg #[.bool (slA d.s).whole, .int .u32 (slA d.s).seq, .int .i64 (slA d.s).freq, .bool (slB d.s).whole, .int .u32 (slB d.s).seq, .int .i64 (slB d.s).freq]) ∧ Below w.heap.size w w' := by
  obtain ⟨F, h1, _⟩ := h.one
  exact kslots_any h.ok w h1
theorem dload_any {w0 w : World} {p : Nat} {d : Dk} (h : OneD w0 w p d) :
    Calls Try.prog 10 #[.pointer (some ⟨p, 0, none⟩)] w fun e w' => e = .returned (.tuple #[.int .i64 (loadV d.s), .bool (loadB d.s)]) ∧ Below w.heap.size w w' := by
  obtain ⟨F, h1, _⟩ := h.one
  exact kload_any h.ok w h1
theorem dsave_any {w0 w : World} {p : Nat} {d : Dk} (f : Int) (f0 : -9223372036854775808 ≤ f) (f1 : f ≤ 9223372036854775807) (h : OneD w0 w p d) :
    Calls Try.prog 9 #[.pointer (some ⟨p, 0, none⟩), .int .i64 f] w fun e w' => e = .returned (.int .i64 (savE d)) ∧ OneD w0 w' p (savD d f) := by
  obtain ⟨F, h1, h2⟩ := h.one
  exact (ksave_any h.ok f f0 f1 w h1).mono fun e w' ⟨he, hC, t⟩ => ⟨he, OneD.step h2 h.below t hC (sav_ok h.ok f)⟩
/-- A disk whose power never goes. -/
structure Live (d : Dk) : Prop where
  ok : d.Ok
  left : d.left = -1
  off : d.off = false
theorem newD_live (s : List UInt8) : Live (newD s) := ⟨newD_ok s, rfl, rfl⟩
theorem live_save {d : Dk} (h : Live d) (f : Int) : savE d = 0 ∧ Live (savD d f) ∧ (savD d f).s = put16 d.s (target d.s) (packS d.s f) := by
  have e : savD d f = ⟨put16 d.s (target d.s) (packS d.s f), d.left, false⟩ := by
    unfold savD
    rw [h.off, h.left]
    rfl
  refine ⟨by unfold savE; rw [h.off, h.left]; rfl, ⟨sav_ok h.ok f, by rw [e]; exact h.left, by rw [e]⟩, by rw [e]⟩
theorem live_load {d : Dk} (h : Live d) (f : Int) (f0 : -9223372036854775808 ≤ f) (f1 : f ≤ 9223372036854775807) : loadV (savD d f).s = f ∧ loadB (savD d f).s = true := by
  rw [(live_save h f).2.2]
  exact save_load h.ok.s f f0 f1
set_option maxHeartbeats 3200000 in
theorem shown9_any (w : World) : Calls Try.prog 7 #[] w fun e w' => e = .returned (.bool true) ∧ Below w.heap.size w w' := by
  have z := dnew_any [] (by decide) w w (Below.refl _ _)
  have hl := newD_live []
  obtain ⟨v1, hl2, _⟩ := live_save hl 77
  obtain ⟨v2, v3⟩ := live_load hl 77 (by decide) (by decide)
  have y1 := fun w' p (h : OneD w w' p (newD [])) => dsave_any 77 (by decide) (by decide) h
  rw [v1] at y1
  have y2 := fun w' p (h : OneD w w' p (savD (newD []) 77)) => dload_any h
  rw [v2, v3] at y2
  rw [show bs [] = { data := #[] } from rfl] at z
  generalize savD (newD []) 77 = d2 at *
  generalize newD [] = d1 at *
  clear v1 v2 v3 hl hl2
  go_enter Try.func7, Try.ntmps7
  go_wp2_with fail
  (with_reducible refine z.mono ?_)
  rintro e w1 ⟨p, rfl, h1, _⟩
  go_wp2_with fail
  (with_reducible refine (y1 _ _ h1).mono ?_)
  rintro e w2 ⟨rfl, h2⟩
  go_wp2_with fail
  (with_reducible refine (y2 _ _ h2).mono ?_)
  rintro e w3 ⟨rfl, hB3⟩
  have h3 := (h2.kept hB3).below
  go_wp2_with fail
  go_ret
  exact ⟨rfl, h3⟩
def slEq (x y : Sl) : Bool := (x.whole == y.whole) && decide (x.seq = y.seq) && decide (x.freq = y.freq)
theorem slEq_iff (x y : Sl) : slEq x y = true ↔ x = y := by
  cases x; cases y
  simp [slEq, and_assoc]
theorem sl_eql (x y : Sl) (w : World) : (binOp .eql 35 (slV x) (slV y)).run Try.prog w = .ok (.bool (slEq x y)) w := by
  cases x with | mk a b c =>
  cases y with | mk d e f =>
  unfold slV slEq
  simp only []
  by_cases h1 : b = e
  · by_cases h2 : c = f
    · cases a <;> cases d <;> simp [go_sem, h1, h2]
    · cases a <;> cases d <;> simp [go_sem, h1, h2]
  · cases a <;> cases d <;> simp [go_sem, h1]
theorem sl_neq (x y : Sl) (w : World) : (binOp .neq 35 (slV x) (slV y)).run Try.prog w = .ok (.bool (!slEq x y)) w := by
  cases x with | mk a b c =>
  cases y with | mk d e f =>
  unfold slV slEq
  simp only []
  by_cases h1 : b = e
  · by_cases h2 : c = f
    · cases a <;> cases d <;> simp [go_sem, h1, h2]
    · cases a <;> cases d <;> simp [go_sem, h1, h2]
  · cases a <;> cases d <;> simp [go_sem, h1]
/-- A Save's slot is the other one's next. -/
theorem turns {s : List UInt8} (hs : s.length = 32) (f : Int) (f0 : -9223372036854775808 ≤ f) (f1 : f ≤ 9223372036854775807) :
    (loadB s = true ∧ loadV s = (slA s).freq ∧ slA (put16 s (target s) (packS s f)) = slA s ∧ slB (put16 s (target s) (packS s f)) = ⟨true, ((slA s).seq + 1) % 4294967296, f⟩ ∧ slEq ⟨true, ((slA s).seq + 1) % 4294967296, f⟩ (slB s) = false) ∨
    (loadB s = true ∧ loadV s = (slB s).freq ∧ slB (put16 s (target s) (packS s f)) = slB s ∧ slA (put16 s (target s) (packS s f)) = ⟨true, ((slB s).seq + 1) % 4294967296, f⟩) ∨
    (loadB s = false ∧ slA (put16 s (target s) (packS s f)) = ⟨true, 1, f⟩) := by
  obtain ⟨q0, q1⟩ := nextSeq_range s
  have hp : (packS s f).length = 16 := pack_length _ _
  have hsl : slOf (packS s f) = ⟨true, nextSeq s, f⟩ := sl_pack _ _ q0 q1 f0 f1
  obtain ⟨e1, e2, e3, e4⟩ := put_slots hs hp
  rw [hsl] at e1 e4
  rcases new_cases (slA s) (slB s) with h | h | h
  · have ht : target s = 16 := by unfold target; rw [if_pos h]
    have hq : nextSeq s = ((slA s).seq + 1) % 4294967296 := by unfold nextSeq; rw [if_pos h]
    rw [hq] at e4
    refine .inl ⟨by unfold loadB; rw [h]; rfl, by unfold loadV; rw [if_pos h], by rw [ht]; exact e3, by rw [ht]; exact e4, ?_⟩
    rw [Bool.eq_false_iff]
    intro he
    have he := ((slEq_iff _ _).1 he).symm
    rw [he] at h
    unfold newest at h
    split at h
    · simp only [if_true] at h
      rw [if_pos (by omega)] at h
      cases h
    · cases h
  · have ht : target s = 0 := by unfold target; rw [if_neg (by omega)]
    have hq : nextSeq s = ((slB s).seq + 1) % 4294967296 := by unfold nextSeq; rw [if_neg (by omega), if_pos h]
    rw [hq] at e1
    exact .inr (.inl ⟨by unfold loadB; rw [h]; rfl, by unfold loadV; rw [if_neg (by omega), if_pos h], by rw [ht]; exact e2, by rw [ht]; exact e1⟩)
  · have ht : target s = 0 := by unfold target; rw [if_neg (by omega)]
    have hq : nextSeq s = 1 := by unfold nextSeq; rw [if_neg (by omega), if_neg (by omega)]
    rw [hq] at e1
    exact .inr (.inr ⟨by unfold loadB; rw [h]; rfl, by rw [ht]; exact e1⟩)
end Go.Proofs.Ytcfdggeoecdnnaa.W
