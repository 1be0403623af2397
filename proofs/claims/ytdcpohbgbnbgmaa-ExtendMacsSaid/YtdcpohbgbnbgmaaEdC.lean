/- The document's own answers of layer 6, walked: fields that are compared, joined. -/
import Derived.Test.YtdcpohbgbnbgmaaEdB
import Derived.Outline
namespace Go.Proofs.Ytdcpohbgbnbgmaa.W
open Go.RowKit Go.Sort
set_option linter.unusedVariables false
set_option linter.unusedSimpArgs false
/-- A slice of fields, as it is read. -/
def FdIn (w : World) (v : Value) (l : List Fd) : Prop :=
  (∃ a c, v = .slice a 0 c ∧ (a = none → c = 0) ∧ l = []) ∨
  ∃ b off cap, v = .slice (some ⟨b, off, none⟩) l.length cap ∧ b < w.heap.size ∧ ∀ i, i < l.length → w.cell? ⟨b, off + i * 2, none⟩ = some (.int .i64 (l.getD i ⟨0, []⟩).ty) ∧ w.cell? ⟨b, off + i * 2 + 1, none⟩ = some (.string (bs (l.getD i ⟨0, []⟩).body))
theorem FdIn.kept {w w' : World} {v : Value} {l : List Fd} (h : FdIn w v l) (hB : Below w.heap.size w w') : FdIn w' v l := by
  rcases h with h | ⟨b, off, cap, hv, hb, hc⟩
  · exact .inl h
  · refine .inr ⟨b, off, cap, hv, Nat.lt_of_lt_of_le hb hB.size, fun i hi => ?_⟩
    rw [(bcell hB).1 b _ hb, (bcell hB).1 b _ hb]
    exact hc i hi
theorem fdCells_at : ∀ (l : List Fd) (i : Nat), i < l.length → (fdCells l)[i * 2]? = some (.int .i64 (l.getD i ⟨0, []⟩).ty) ∧ (fdCells l)[i * 2 + 1]? = some (.string (bs (l.getD i ⟨0, []⟩).body))
  | f :: l, 0, _ => by simp [fdCells]
  | f :: l, i + 1, h => by
    have := fdCells_at l i (by simpa using h)
    have e : fdCells (f :: l) = .int .i64 f.ty :: .string (bs f.body) :: fdCells l := by simp [fdCells]
    rw [e, show (i + 1) * 2 = i * 2 + 1 + 1 by omega]
    simpa using this
theorem fdCells_length (l : List Fd) : (fdCells l).length = l.length * 2 := by
  induction l with
  | nil => rfl
  | cons f l ih =>
    have e : fdCells (f :: l) = .int .i64 f.ty :: .string (bs f.body) :: fdCells l := by simp [fdCells]
    rw [e, List.length_cons, List.length_cons, ih, List.length_cons]
    omega
theorem FdIn.own {w : World} {base : Nat} {e : TypeId} {v : Value} {l : List Fd} (h : w.ownsRow base e 2 v l.length (fdCells l)) : FdIn w v l := by
  rcases h.2 with ⟨rfl, hn⟩ | ⟨g, cap, cur, rfl, hb, hg, h1, h2, h3, h4⟩
  · exact .inl ⟨none, 0, rfl, fun _ => rfl, List.eq_nil_of_length_eq_zero hn⟩
  · refine .inr ⟨g, 0, cap, rfl, (Array.getElem?_eq_some_iff.1 hg).1, fun i hi => ?_⟩
    obtain ⟨a1, a2⟩ := fdCells_at l i hi
    have c1 := h.cells (g := g) rfl (i * 2) _ a1
    have c2 := h.cells (g := g) rfl (i * 2 + 1) _ a2
    rw [Addr.add_lit, Nat.zero_add] at c1 c2
    rw [Nat.zero_add]
    exact ⟨c1, c2⟩
/-- Are they the same, from i on? -/
def fdEq (a b : Fd) : Bool := decide (a.ty = b.ty) && (a.body == b.body)
theorem fdEq_iff (a b : Fd) : fdEq a b = true ↔ a = b := by
  cases a; cases b
  simp [fdEq]
def fdSame (a b : List Fd) : Bool := match a, b with
  | [], [] => true
  | x :: a, y :: b => fdEq x y && fdSame a b
  | _, _ => false
theorem fdSame_iff : ∀ (a b : List Fd), fdSame a b = true ↔ a = b
  | [], [] => by simp [fdSame]
  | [], y :: b => by simp [fdSame]
  | x :: a, [] => by simp [fdSame]
  | x :: a, y :: b => by
    simp [fdSame, fdEq_iff, fdSame_iff a b]
theorem drewN_two (w : World) (m n : Nat) : (w.drewN m).drewN n = w.drewN (m + n) := by simp [World.drewN, Nat.add_assoc]
def Fd.val (f : Fd) : Value := .agg #[.int .i64 f.ty, .string (bs f.body)]
theorem fd_neq (x y : Fd) (w : World) : (binOp .neq 53 x.val y.val).run Try.prog w = .ok (.bool (!fdEq x y)) w := by
  cases x with | mk t p =>
  cases y with | mk u q =>
  unfold Fd.val fdEq
  simp only []
  by_cases h1 : t = u
  · by_cases h2 : p = q
    · subst h1; subst h2
      simp [go_sem]
    · have h3 : ¬ bs p = bs q := fun e => h2 (bs_inj e)
      simp [go_sem, h1, h2, h3]
  · simp [go_sem, h1]
theorem fdSame_step (a b : List Fd) (k : Nat) (h : k < a.length) (h' : k < b.length) : fdSame (a.drop k) (b.drop k) = (fdEq (a.getD k ⟨0, []⟩) (b.getD k ⟨0, []⟩) && fdSame (a.drop (k + 1)) (b.drop (k + 1))) := by
  rw [List.drop_eq_getElem_cons h, List.drop_eq_getElem_cons h']
  simp [fdSame, List.getD_eq_getElem?_getD, h, h']
set_option maxHeartbeats 3200000 in
theorem rsame_any (a b : List Fd) (ha : a.length ≤ 1000000) (hb : b.length ≤ 1000000) (va vb : Value) (w : World) (ia : FdIn w va a) (ib : FdIn w vb b) :
    Calls Try.prog 11 #[va, vb] w fun e w' => e = .returned (.bool (fdSame a b)) ∧ ∃ m, w' = w.drewN m := by
  by_cases hl : a.length = b.length
  · rcases ia with ⟨xa, ca, rfl, _, rfl⟩ | ⟨ab, ao, ac, rfl, al, ha'⟩
    · obtain rfl : b = [] := List.eq_nil_of_length_eq_zero (by simpa using hl.symm)
      have hv : ∃ x c, vb = .slice x 0 c := by
        rcases ib with ⟨xb, cb, rfl, _⟩ | ⟨bb, bo, bc, rfl, _⟩
        · exact ⟨_, _, rfl⟩
        · exact ⟨_, _, rfl⟩
      obtain ⟨x, c, rfl⟩ := hv
      clear ib hl
      go_enter Try.func11, Try.ntmps11
      go_wp2
      refine wp_loop_rounds 1 ?_
      rw [rounds_succ]
      go_wp2
      go_ret
      exact ⟨rfl, 0, rfl⟩
    · rcases ib with ⟨xb, cb, rfl, _, rfl⟩ | ⟨bb, bo, bc, rfl, bl, hb'⟩
      · obtain rfl : a = [] := List.eq_nil_of_length_eq_zero (by simpa using hl)
        clear hl
        go_enter Try.func11, Try.ntmps11
        go_wp2
        refine wp_loop_rounds 1 ?_
        rw [rounds_succ]
        go_wp2
        go_ret
        exact ⟨rfl, 0, rfl⟩
      · have HA := Lib.hid ha'
        have HB := Lib.hid hb'
        clear ha' hb'
        go_enter Try.func11, Try.ntmps11
        go_wp2
        go_loopw [5] (fun i wr => ∃ k m : Nat, k ≤ a.length ∧ i = .int .i64 k ∧ fdSame a b = fdSame (a.drop k) (b.drop k) ∧ wr = w.drewN m) (fun i _ => a.length - (intOf i).toNat)
        case atStart => exact ⟨0, 0, Nat.zero_le _, rfl, rfl, rfl⟩
        case round =>
          obtain ⟨k, m, hk, rfl, hs, rfl⟩ := hrel
          by_cases hlt : k < a.length
          · obtain ⟨a1, a2⟩ := HA.out k hlt
            obtain ⟨b1, b2⟩ := HB.out k (by omega)
            rw [fdSame_step a b k hlt (by omega)] at hs
            have hn := fd_neq (a.getD k ⟨0, []⟩) (b.getD k ⟨0, []⟩)
            generalize a.getD k ⟨0, []⟩ = x at *
            generalize b.getD k ⟨0, []⟩ = y at *
            unfold Fd.val at hn
            have i0 : (0 : Int) ≤ (k : Int) := by omega
            have i1 : (k : Int) < (a.length : Int) := by omega
            have i2 : (k : Int) < (b.length : Int) := by omega
            have HS := Lib.hid hs
            clear hs
            cases he : fdEq x y
            · rw [he] at hn
              go_wp2_with fail
              go_quiet (fail)
              go_wp2_with fail
              go_ret
              exact ⟨by rw [HS.out, he]; rfl, _, drewN_two _ _ _⟩
            · rw [he] at hn
              go_wp2_with fail
              go_quiet (fail)
              go_wp2_with fail
              go_roundw
              case rel => exact ⟨k + 1, _, by omega, by go_num, by rw [HS.out, he]; rfl, by first | exact drewN_two _ _ _ | exact rfl⟩
              case measure => simp [intOf]; omega
          · obtain rfl : k = a.length := by omega
            rw [List.drop_of_length_le (Nat.le_refl _), List.drop_of_length_le (by omega)] at hs
            have HS := Lib.hid hs
            clear hs
            go_wp2_with fail
            go_ret
            exact ⟨by rw [HS.out]; rfl, _, rfl⟩
  · have hl' : ¬ (a.length : Int) = b.length := by omega
    have hf : fdSame a b = false := by
      cases h : fdSame a b
      · rfl
      · exact absurd (congrArg List.length ((fdSame_iff a b).1 h)) hl
    have hva : ∃ x c, va = .slice x a.length c := by
      rcases ia with ⟨_, _, rfl, _, rfl⟩ | ⟨bb, bo, bc, rfl, _⟩
      · exact ⟨_, _, rfl⟩
      · exact ⟨_, _, rfl⟩
    have hvb : ∃ x c, vb = .slice x b.length c := by
      rcases ib with ⟨_, _, rfl, _, rfl⟩ | ⟨bb, bo, bc, rfl, _⟩
      · exact ⟨_, _, rfl⟩
      · exact ⟨_, _, rfl⟩
    obtain ⟨x, c, rfl⟩ := hva
    obtain ⟨y, d, rfl⟩ := hvb
    rw [hf]
    clear hl hf ia ib
    go_enter Try.func11, Try.ntmps11
    go_wp2
    go_ret
    exact ⟨rfl, 0, rfl⟩
end Go.Proofs.Ytdcpohbgbnbgmaa.W
