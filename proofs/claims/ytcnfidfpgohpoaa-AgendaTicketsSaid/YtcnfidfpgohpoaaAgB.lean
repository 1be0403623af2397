/- The document's own answers of layer 8, walked: an item laid at its place. -/
import Derived.Test.YtcnfidfpgohpoaaAgA
import Derived.Test.YtcnfidfpgohpoaaWdefs
import Derived.Test.YtcnfidfpgohpoaaHdI
import Derived.Test.YtcnfidfpgohpoaaSlA
import Derived.WalkKit
import Derived.OwnWalk
import Derived.BigQuiet
import Derived.Deep.DeepCutAuto
import Derived.Deep.RegionHeld3
namespace Go.Proofs.Ytcnfidfpgohpoaa.W
open Go.RowKit Go.Sort
set_option linter.unusedVariables false
set_option linter.unusedSimpArgs false
/-- The reference's agenda at block p; all its blocks are F's. -/
def RaIn (F : Nat → Prop) (w : World) (p : Nat) (a : Ag) : Prop :=
  F p ∧ (∀ k, F k → k < w.heap.size) ∧ ∃ v, w.heap[p]? = some (.cells #[v, .int .i64 a.n] 30 (0, 0)) ∧ SlAt (fun b => F b ∧ b ≠ p) 4 itE w v a.l
theorem RaIn.kept {F G : Nat → Prop} {w w' : World} {p : Nat} {a : Ag} (h : RaIn F w p a) (t : Touch G w w') (hd : ∀ k, F k → ¬ G k) : RaIn F w' p a := by
  obtain ⟨h1, h2, v, h3, h4⟩ := h
  exact ⟨h1, fun k hk => Nat.lt_of_lt_of_le (h2 k hk) t.size, v, (t.block p (h2 p h1) (hd p h1)).trans h3, h4.kept fun b hb => t.block b (h2 b hb.1) (hd b hb.1)⟩
theorem RaIn.below {F : Nat → Prop} {w w' : World} {p : Nat} {a : Ag} (h : RaIn F w p a) (t : Below w.heap.size w w') : RaIn F w' p a :=
  h.kept (Touch.of_below (fun _ => False) t) (fun _ _ e => e)
theorem RaIn.mono {F G : Nat → Prop} {w : World} {p : Nat} {a : Ag} (h : RaIn F w p a) (hFG : ∀ k, F k → G k) (hG : ∀ k, G k → k < w.heap.size) : RaIn G w p a := by
  obtain ⟨h1, h2, v, h3, h4⟩ := h
  exact ⟨hFG p h1, hG, v, h3, h4.mono fun b hb => ⟨hFG b hb.1, hb.2⟩⟩
theorem RaIn.lt {F : Nat → Prop} {w : World} {p : Nat} {a : Ag} (h : RaIn F w p a) : ∀ k, F k → k < w.heap.size := h.2.1
theorem two_cells {w : World} {p : Nat} {a b : Value} {t : TypeId} (h : w.heap[p]? = some (.cells #[a, b] t (0, 0))) :
    w.cell? ⟨p, 0, none⟩ = some a ∧ w.cell? ⟨p, 1, none⟩ = some b ∧ w.frozen? ⟨p, 0, none⟩ = false ∧ w.frozen? ⟨p, 1, none⟩ = false := by
  refine ⟨?_, ?_, ?_, ?_⟩ <;> simp [World.cell?, World.frozen?, h]
theorem four_cells {w : World} {p : Nat} {a b c d : Value} {t : TypeId} (h : w.heap[p]? = some (.cells #[a, b, c, d] t (0, 0))) :
    w.cell? ⟨p, 0, none⟩ = some a ∧ w.cell? ⟨p, 1, none⟩ = some b ∧ w.cell? ⟨p, 2, none⟩ = some c ∧ w.cell? ⟨p, 3, none⟩ = some d := by
  refine ⟨?_, ?_, ?_, ?_⟩ <;> simp [World.cell?, h]
theorem itE_one (x : It) : ∀ u ∈ itE x, u.oneCell' = true := by
  intro u hu
  simp [itE] at hu
  rcases hu with rfl | rfl | rfl | rfl <;> rfl
theorem it_row (w : World) (x : It) (t : TypeId) : ∀ j u, ([.int .i64 x.at_, .int .i64 x.kind, .string (bs x.data), .int .i64 x.ticket] : List Value)[j]? = some u → (w.alloc (.cells #[.int .i64 x.at_, .int .i64 x.kind, .string (bs x.data), .int .i64 x.ticket] t)).cell? ((⟨w.heap.size, 0, none⟩ : Addr).add j) = some u := by
  intro j u hu
  rw [Addr.add_lit, Nat.zero_add]
  match j, hu with
  | 0, hu => simp at hu; subst hu; simp [go_sem]
  | 1, hu => simp at hu; subst hu; simp [go_sem]
  | 2, hu => simp at hu; subst hu; simp [go_sem]
  | 3, hu => simp at hu; subst hu; simp [go_sem]
theorem it_snoc (l : List It) (x : It) : l.flatMap itE ++ [.int .i64 x.at_, .int .i64 x.kind, .string (bs x.data), .int .i64 x.ticket] = (l ++ [x]).flatMap itE := by simp [itE]
theorem info_It : (Try.prog.info? 42).map (fun i => (i.zero, i.size, i.bytes)) = some (some (.agg #[.int .i64 0, .int .i64 0, .string ByteArray.empty, .int .i64 0]), 4, 40) := by kernel_rfl
theorem it_at {F : Nat → Prop} {w0 w : World} {b off k : Nat} {x : It} (hs : w.heap[b]? = w0.heap[b]?) (hc : ∀ j u, (itE x)[j]? = some u → w0.cell? ⟨b, off + k * 4 + j, none⟩ = some u) :
    w.cell? ⟨b, off + k * 4, none⟩ = some (.int .i64 x.at_) ∧ w.cell? ⟨b, off + k * 4 + 1, none⟩ = some (.int .i64 x.kind) ∧ w.cell? ⟨b, off + k * 4 + 2, none⟩ = some (.string (bs x.data)) ∧ w.cell? ⟨b, off + k * 4 + 3, none⟩ = some (.int .i64 x.ticket) :=
  ⟨(cell_same hs _).trans (hc 0 _ rfl), (cell_same hs _).trans (hc 1 _ rfl), (cell_same hs _).trans (hc 2 _ rfl), (cell_same hs _).trans (hc 3 _ rfl)⟩
set_option maxHeartbeats 3200000 in
theorem rahead_any (x y : It) (w : World) :
    Calls Try.prog 46 #[.agg #[.int .i64 x.at_, .int .i64 x.kind, .string (bs x.data), .int .i64 x.ticket], .agg #[.int .i64 y.at_, .int .i64 y.kind, .string (bs y.data), .int .i64 y.ticket]] w fun e w' => e = .returned (.bool (ahead x y)) ∧ Below w.heap.size w w' := by
  unfold ahead
  by_cases h1 : x.at_ < y.at_
  · go_enter Try.func46, Try.ntmps46
    go_wp2
    go_ret
    exact ⟨ret1b (by simp [h1]), by have : True := trivial; repeat' (first | (with_reducible exact Below.refl _ _) | (with_reducible assumption) | (with_reducible refine below_drewN ?_ _) | (with_reducible refine Below.drew ?_) | (with_reducible refine Below.setCell ?_ ?_ _) | (with_reducible refine Below.alloc ?_ ?_ _) | (simp; done) | (simp; omega) | omega)⟩
  · by_cases h2 : x.at_ = y.at_
    · by_cases h3 : x.ticket < y.ticket
      · go_enter Try.func46, Try.ntmps46
        go_wp2
        go_ret
        exact ⟨ret1b (by simp [h2, h3]), by have : True := trivial; repeat' (first | (with_reducible exact Below.refl _ _) | (with_reducible assumption) | (with_reducible refine below_drewN ?_ _) | (with_reducible refine Below.drew ?_) | (with_reducible refine Below.setCell ?_ ?_ _) | (with_reducible refine Below.alloc ?_ ?_ _) | (simp; done) | (simp; omega) | omega)⟩
      · go_enter Try.func46, Try.ntmps46
        go_wp2
        go_ret
        exact ⟨ret1b (by simp [h2, h3]; try omega), by have : True := trivial; repeat' (first | (with_reducible exact Below.refl _ _) | (with_reducible assumption) | (with_reducible refine below_drewN ?_ _) | (with_reducible refine Below.drew ?_) | (with_reducible refine Below.setCell ?_ ?_ _) | (with_reducible refine Below.alloc ?_ ?_ _) | (simp; done) | (simp; omega) | omega)⟩
    · go_enter Try.func46, Try.ntmps46
      go_wp2
      go_ret
      exact ⟨ret1b (by simp [h2]; try omega), by have : True := trivial; repeat' (first | (with_reducible exact Below.refl _ _) | (with_reducible assumption) | (with_reducible refine below_drewN ?_ _) | (with_reducible refine Below.drew ?_) | (with_reducible refine Below.setCell ?_ ?_ _) | (with_reducible refine Below.alloc ?_ ?_ _) | (simp; done) | (simp; omega) | omega)⟩
/-- How far laying has come: k items are gone by. -/
def LayR (x : It) (l : List It) (k : Nat) (out : List It) (d : Bool) : Prop :=
  (d = false ∧ out = l.take k ∧ layL x l = l.take k ++ layL x (l.drop k)) ∨ (d = true ∧ layL x l = out ++ l.drop k ∧ out.length = k + 1)
theorem lay_start (x : It) (l : List It) : LayR x l 0 [] false := .inl ⟨rfl, rfl, by simp⟩
theorem drop_at {l : List It} {k : Nat} {y : It} (h : l[k]? = some y) : l.drop k = y :: l.drop (k + 1) := by
  obtain ⟨hk, rfl⟩ := List.getElem?_eq_some_iff.1 h
  exact List.drop_eq_getElem_cons hk
theorem lay_here {x y : It} {l : List It} {k : Nat} {out : List It} (h : LayR x l k out false) (hy : l[k]? = some y) (ha : ahead x y = true) : LayR x l (k + 1) (out ++ [x] ++ [y]) true := by
  rcases h with ⟨_, rfl, h⟩ | ⟨h, _⟩
  · rw [drop_at hy, layL, if_pos ha] at h
    have hk := (List.getElem?_eq_some_iff.1 hy).1
    exact .inr ⟨rfl, by rw [h]; simp, by simp; omega⟩
  · cases h
theorem lay_not {x y : It} {l : List It} {k : Nat} {out : List It} (h : LayR x l k out false) (hy : l[k]? = some y) (ha : ahead x y = false) : LayR x l (k + 1) (out ++ [y]) false := by
  rcases h with ⟨_, rfl, h⟩ | ⟨h, _⟩
  · rw [drop_at hy, layL, if_neg (by rw [ha]; decide)] at h
    exact .inl ⟨rfl, (take_next l k y hy).symm, by rw [h, take_next l k y hy]; simp⟩
  · cases h
theorem lay_done {x y : It} {l : List It} {k : Nat} {out : List It} (h : LayR x l k out true) (hy : l[k]? = some y) : LayR x l (k + 1) (out ++ [y]) true := by
  rcases h with ⟨h, _⟩ | ⟨_, h, hl⟩
  · cases h
  · exact .inr ⟨rfl, by rw [h, drop_at hy]; simp, by simp [hl]⟩
theorem lay_end {x : It} {l : List It} {out : List It} (h : LayR x l l.length out true) : out = layL x l := by
  rcases h with ⟨h, _⟩ | ⟨_, h, _⟩
  · cases h
  · rw [h]; simp
theorem lay_last {x : It} {l : List It} {out : List It} (h : LayR x l l.length out false) : out ++ [x] = layL x l := by
  rcases h with ⟨_, rfl, h⟩ | ⟨h, _⟩
  · rw [h]; simp [layL]
  · cases h
theorem LayR.len {x : It} {l : List It} {k : Nat} {out : List It} {d : Bool} (h : LayR x l k out d) : out.length ≤ k + 1 := by
  rcases h with ⟨_, rfl, _⟩ | ⟨_, _, h⟩
  · simp; omega
  · omega
end Go.Proofs.Ytcnfidfpgohpoaa.W
