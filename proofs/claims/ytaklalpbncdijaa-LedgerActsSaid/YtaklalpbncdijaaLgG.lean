/- What the laws of layer 7 call besides: both clocks by their common word; the small case that must go well. -/
import Derived.Test.YtaklalpbncdijaaLgF
import Derived.Test.YtaklalpbncdijaaLgE
namespace Go.Proofs.Ytaklalpbncdijaa.W
open Go.RowKit Go.Sort
set_option linter.unusedVariables false
set_option linter.unusedSimpArgs false
theorem Both.cells {w0 w : World} {pc pr : Nat} {c : Ck} (h : Both w0 w pc pr c) : w.cell? ⟨pr, 0, none⟩ = some (.int .i64 c.last) ∧ w.cell? ⟨pr, 2, none⟩ = some (.int .i64 c.speed) ∧
    ∃ v, w.cell? ⟨pr, 3, none⟩ = some v ∧ SlAt (fun b => b < w.heap.size) 3 enE w v c.l := by
  obtain ⟨⟨F, G, h1, h2, _⟩, _⟩ := h
  obtain ⟨h3, h4, v, h5, h6⟩ := h2
  obtain ⟨q0, q1, q2, q3, _⟩ := clock_cells h5
  exact ⟨q0, q2, v, q3, h6.mono (fun b hb => h4 b hb.1)⟩
theorem btot_any {w0 w : World} {pc pr : Nat} {c : Ck} (ok : c.Ok) (raw : Int) (r0 : -9223372036854775808 ≤ raw) (r1 : raw ≤ 9223372036854775807) (h : Both w0 w pc pr c) :
    Calls Try.prog 12 #[.pointer (some ⟨pc, 0, none⟩), .int .i64 raw] w fun e w' => e = .returned (.tuple #[.int .i64 (totV c raw), .int .i64 (totE c raw)]) ∧ Both w0 w' pc pr c := by
  obtain ⟨F, G, h1, _⟩ := h.both
  exact (ctot_any ok raw r0 r1 w h1).mono fun e w' ⟨he, hB⟩ => ⟨he, h.kept hB⟩
theorem brtot_any {w0 w : World} {pc pr : Nat} {c : Ck} (ok : c.Ok) (raw : Int) (r0 : -9223372036854775808 ≤ raw) (r1 : raw ≤ 9223372036854775807) (h : Both w0 w pc pr c) :
    Calls Try.prog 13 #[.pointer (some ⟨pr, 0, none⟩), .int .i64 raw] w fun e w' => e = .returned (.tuple #[.int .i64 (totV c raw), .int .i64 (totE c raw)]) ∧ Both w0 w' pc pr c := by
  obtain ⟨F, G, _, h1, _⟩ := h.both
  exact (rtot_any ok raw r0 r1 w h1).mono fun e w' ⟨he, hB⟩ => ⟨he, h.kept hB⟩
theorem bread_any {w0 w : World} {pc pr : Nat} {c : Ck} (ok : c.Ok) (raw : Int) (r0 : -9223372036854775808 ≤ raw) (r1 : raw ≤ 9223372036854775807) (h : Both w0 w pc pr c) :
    Calls Try.prog 17 #[.pointer (some ⟨pc, 0, none⟩), .int .i64 raw] w fun e w' => e = .returned (.tuple #[.int .i64 (readV c raw), .int .i64 (totE c raw)]) ∧ Both w0 w' pc pr c := by
  obtain ⟨F, G, h1, _⟩ := h.both
  exact (cread_any ok raw r0 r1 w h1).mono fun e w' ⟨he, hB⟩ => ⟨he, h.kept hB⟩
theorem bspeed_any {w0 w : World} {pc pr : Nat} {c : Ck} (h : Both w0 w pc pr c) :
    Calls Try.prog 11 #[.pointer (some ⟨pc, 0, none⟩)] w fun e w' => e = .returned (.int .i64 c.speed) ∧ Both w0 w' pc pr c := by
  obtain ⟨F, G, h1, _⟩ := h.both
  exact (cspeed_any w h1).mono fun e w' ⟨he, hB⟩ => ⟨he, h.kept hB⟩
theorem bent_any {w0 w : World} {pc pr : Nat} {c : Ck} (ok : c.Ok) (h : Both w0 w pc pr c) :
    Calls Try.prog 16 #[.pointer (some ⟨pc, 0, none⟩)] w fun e w' => ∃ v, e = .returned v ∧ SlAt (fun b => w.heap.size ≤ b ∧ b < w'.heap.size) 3 enE w' v c.l ∧ Below w.heap.size w w' := by
  obtain ⟨F, G, h1, _⟩ := h.both
  exact cent_any ok w h1
theorem bent2_any {w0 w : World} {pc pr : Nat} {c : Ck} (ok : c.Ok) (h : Both w0 w pc pr c) :
    Calls Try.prog 16 #[.pointer (some ⟨pc, 0, none⟩)] w fun e w' => ∃ x cp, e = .returned (.slice x c.l.length cp) ∧ Both w0 w' pc pr c := by
  refine (bent_any ok h).mono fun e w' ⟨v, he, hs, hB⟩ => ?_
  obtain ⟨x, cp, rfl⟩ := hs.slice
  exact ⟨x, cp, he, h.kept hB⟩
/-- A clock of the code's alone. -/
structure One (w0 w : World) (pc : Nat) (c : Ck) : Prop where
  one : ∃ F, CkIn F w pc c ∧ (∀ k, F k → w0.heap.size ≤ k)
  below : Below w0.heap.size w0 w
theorem One.kept {w0 w w' : World} {pc : Nat} {c : Ck} (h : One w0 w pc c) (t : Below w.heap.size w w') : One w0 w' pc c := by
  obtain ⟨⟨F, h1, h2⟩, hB⟩ := h
  exact ⟨⟨F, h1.below t, h2⟩, hB.trans (t.mono hB.size)⟩
theorem One.step {w0 w w' : World} {pc : Nat} {c : Ck} {F : Nat → Prop} (hF : ∀ k, F k → w0.heap.size ≤ k) (hB : Below w0.heap.size w0 w) (t : Touch F w w') (h : CkIn (Gr F w w') w' pc c) : One w0 w' pc c := by
  refine ⟨⟨_, h, ?_⟩, t.below hB hB.size hF⟩
  rintro k (hk | hk)
  · exact hF k hk
  · have := hB.size
    omega
theorem Both.lone {w0 w : World} {pc pr : Nat} {c : Ck} (h : Both w0 w pc pr c) : One w0 w pc c := by
  obtain ⟨⟨F, G, h1, h2, h3, h4, h5⟩, hB⟩ := h
  exact ⟨⟨F, h1, h4⟩, hB⟩
theorem onew_any (raw : Int) (r0 : -9223372036854775808 ≤ raw) (r1 : raw ≤ 9223372036854775807) (w0 w : World) (h : Below w0.heap.size w0 w) :
    Calls Try.prog 8 #[.int .i64 raw] w fun e w' => ∃ p, e = .returned (.pointer (some ⟨p, 0, none⟩)) ∧ One w0 w' p (newS raw) :=
  (cnew_any raw r0 r1 w).mono fun e w' ⟨p, he, hC, hB⟩ => ⟨p, he, ⟨_, hC, fun k hk => Nat.le_trans h.size hk.1⟩, h.trans (hB.mono h.size)⟩
theorem otot_any {w0 w : World} {pc : Nat} {c : Ck} (ok : c.Ok) (raw : Int) (r0 : -9223372036854775808 ≤ raw) (r1 : raw ≤ 9223372036854775807) (h : One w0 w pc c) :
    Calls Try.prog 12 #[.pointer (some ⟨pc, 0, none⟩), .int .i64 raw] w fun e w' => e = .returned (.tuple #[.int .i64 (totV c raw), .int .i64 (totE c raw)]) ∧ One w0 w' pc c := by
  obtain ⟨F, h1, _⟩ := h.one
  exact (ctot_any ok raw r0 r1 w h1).mono fun e w' ⟨he, hB⟩ => ⟨he, h.kept hB⟩
theorem oread_any {w0 w : World} {pc : Nat} {c : Ck} (ok : c.Ok) (raw : Int) (r0 : -9223372036854775808 ≤ raw) (r1 : raw ≤ 9223372036854775807) (h : One w0 w pc c) :
    Calls Try.prog 17 #[.pointer (some ⟨pc, 0, none⟩), .int .i64 raw] w fun e w' => e = .returned (.tuple #[.int .i64 (readV c raw), .int .i64 (totE c raw)]) ∧ One w0 w' pc c := by
  obtain ⟨F, h1, _⟩ := h.one
  exact (cread_any ok raw r0 r1 w h1).mono fun e w' ⟨he, hB⟩ => ⟨he, h.kept hB⟩
theorem osince_any {w0 w : World} {pc : Nat} {c : Ck} (ok : c.Ok) (raw t : Int) (r0 : -9223372036854775808 ≤ raw) (r1 : raw ≤ 9223372036854775807) (b0 : -9223372036854775808 ≤ t) (b1 : t ≤ 9223372036854775807) (h : One w0 w pc c) :
    Calls Try.prog 19 #[.pointer (some ⟨pc, 0, none⟩), .int .i64 raw, .int .i64 t] w fun e w' => e = .returned (.tuple #[.int .i64 (sinV c raw t), .int .i64 (totE c raw)]) ∧ One w0 w' pc c := by
  obtain ⟨F, h1, _⟩ := h.one
  exact (csince_any ok raw t r0 r1 b0 b1 w h1).mono fun e w' ⟨he, hB⟩ => ⟨he, h.kept hB⟩
theorem ocor_any {w0 w : World} {pc : Nat} {c : Ck} (ok : c.Ok) (raw b : Int) (st : Bool) (r0 : -9223372036854775808 ≤ raw) (r1 : raw ≤ 9223372036854775807) (b0 : -9223372036854775808 ≤ b) (b1 : b ≤ 9223372036854775807) (h : One w0 w pc c) :
    Calls Try.prog 18 #[.pointer (some ⟨pc, 0, none⟩), .int .i64 raw, .int .i64 b, .bool st] w fun e w' => e = .returned (.int .i64 (corE c raw b)) ∧ One w0 w' pc (corS c raw b st) := by
  obtain ⟨F, h1, h2⟩ := h.one
  exact (ccor_any ok raw b st r0 r1 b0 b1 w h1).mono fun e w' ⟨he, hC, t⟩ => ⟨he, One.step h2 h.below t hC⟩
theorem orate_any {w0 w : World} {pc : Nat} {c : Ck} (ok : c.Ok) (raw r : Int) (r0 : -9223372036854775808 ≤ raw) (r1 : raw ≤ 9223372036854775807) (b0 : -9223372036854775808 ≤ r) (b1 : r ≤ 9223372036854775807) (h : One w0 w pc c) :
    Calls Try.prog 20 #[.pointer (some ⟨pc, 0, none⟩), .int .i64 raw, .int .i64 r] w fun e w' => e = .returned (.int .i64 (ratE c raw r)) ∧ One w0 w' pc (ratS c raw r) := by
  obtain ⟨F, h1, h2⟩ := h.one
  exact (crate_any ok raw r r0 r1 b0 b1 w h1).mono fun e w' ⟨he, hC, t⟩ => ⟨he, One.step h2 h.below t hC⟩
theorem oent_any {w0 w : World} {pc : Nat} {c : Ck} (ok : c.Ok) (h : One w0 w pc c) :
    Calls Try.prog 16 #[.pointer (some ⟨pc, 0, none⟩)] w fun e w' => ∃ x cp, e = .returned (.slice x c.l.length cp) ∧ One w0 w' pc c := by
  obtain ⟨F, h1, _⟩ := h.one
  refine (cent_any ok w h1).mono fun e w' ⟨v, he, hs, hB⟩ => ?_
  obtain ⟨x, cp, rfl⟩ := hs.slice
  exact ⟨x, cp, he, h.kept hB⟩
set_option maxHeartbeats 3200000 in
theorem shown7_any (w : World) : Calls Try.prog 7 #[] w fun e w' => e = .returned (.bool true) ∧ Below w.heap.size w w' := by
  have z := fun w' => onew_any 0 (by decide) (by decide) w w'
  have ok1 := new_ok 0
  have ok2 := cor_ok ok1 5 7 true
  have v1 : corE (newS 0) 5 7 = 0 := by decide
  have v2 : readV (corS (newS 0) 5 7 true) 10 = 17 := by decide
  have v3 : totE (corS (newS 0) 5 7 true) 10 = 0 := by decide
  have y1 := fun w' pc (h : One w w' pc (newS 0)) => ocor_any ok1 5 7 true (by decide) (by decide) (by decide) (by decide) h
  have y2 := fun w' pc (h : One w w' pc (corS (newS 0) 5 7 true)) => oread_any ok2 10 (by decide) (by decide) h
  rw [v1] at y1
  rw [v2, v3] at y2
  generalize corS (newS 0) 5 7 true = c2 at *
  generalize newS 0 = c1 at *
  clear v1 v2 v3 ok1 ok2
  go_enter Try.func7, Try.ntmps7
  go_wp2_with fail
  (with_reducible refine (z _ (Below.refl _ _)).mono ?_)
  rintro e w1 ⟨p, rfl, h1⟩
  go_wp2_with fail
  (with_reducible refine (y1 _ _ h1).mono ?_)
  rintro e w2 ⟨rfl, h2⟩
  go_wp2_with fail
  (with_reducible refine (y2 _ _ h2).mono ?_)
  rintro e w3 ⟨rfl, h3⟩
  go_wp2_with fail
  go_ret
  exact ⟨rfl, h3.below⟩
/-- Both clocks, new. -/
theorem bnew {w0 w w1 : World} {pc : Nat} {raw : Int} (h : One w0 w pc (newS raw)) (hR : RkIn (fun k => k = w.heap.size) w1 w.heap.size (newS raw)) (hB : Below w.heap.size w w1) : Both w0 w1 pc w.heap.size (newS raw) := by
  obtain ⟨⟨F, h1, h2⟩, hB0⟩ := h
  refine ⟨⟨F, _, h1.below hB, hR, ?_, h2, ?_⟩, hB0.trans (hB.mono hB0.size)⟩
  · rintro k hk rfl
    exact Nat.lt_irrefl _ (h1.lt _ hk)
  · rintro k rfl
    exact hB0.size
def actsS (c : Ck) (l : List Ac) : Ck := l.foldl actS c
theorem acts_ok {c : Ck} (h : c.Ok) : ∀ l : List Ac, (actsS c l).Ok := by
  intro l
  unfold actsS
  induction l generalizing c with
  | nil => exact h
  | cons a l ih => exact ih (act_ok h a)
theorem acts_next (c : Ck) (l : List Ac) (k : Nat) (a : Ac) (h : l[k]? = some a) : actsS c (l.take (k + 1)) = actS (actsS c (l.take k)) a := by
  rw [take_next l k a h]
  unfold actsS
  rw [List.foldl_append]
  rfl
end Go.Proofs.Ytaklalpbncdijaa.W
