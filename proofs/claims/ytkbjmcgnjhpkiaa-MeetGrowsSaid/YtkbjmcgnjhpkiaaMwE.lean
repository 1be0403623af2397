/- Layer 16's own code, walked: edges as they come, each with what is counted. -/
import Derived.Test.YtkbjmcgnjhpkiaaMwD
namespace Go.Proofs.Ytkbjmcgnjhpkiaa.W
open Go.RowKit Go.Shelf Go.Sort
set_option linter.unusedVariables false
set_option linter.unusedSimpArgs false
attribute [local go_sem] Oper.semAt_some
theorem blk_own16 {β : Type} (B : Nat) (o : β → Obj) (ho : ∀ s, (o s).isCells = true) : Own (fun (s : β) W => W.heap[B]? = some (o s)) := by
  intro s X Y row h hg hr
  refine (hg.block B (Array.getElem?_eq_some_iff.1 h).1 (fun e' => ?_)).trans h
  obtain ⟨o', ho', hc⟩ := hr B e'.symm
  rw [h] at ho'
  cases ho'
  rw [ho s] at hc
  cases hc
theorem lt_own16 {β : Type} (n : Nat) : Own (fun (_ : β) W => n ≤ W.heap.size) := fun _ _ _ _ h hg _ => Nat.le_trans h hg.size
/-- An edge that comes, with what is counted more. -/
abbrev Wed := { x : Eg × Int // x.1.Ok ∧ -1 ≤ x.2 ∧ x.2 ≤ 1 }
def wedE (x : Wed) : Array Value := #[x.1.1.val, .int .i64 x.1.2]
theorem mul_sgn {a sgn : Int} (h : a = -1 ∨ a = 0 ∨ a = 1) (hs : sgn = -1 ∨ sgn = 1) : -1 ≤ a * sgn ∧ a * sgn ≤ 1 := by
  rcases hs with rfl | rfl <;> rcases h with rfl | rfl | rfl <;> decide
def toW (sgn : Int) (hs : sgn = -1 ∨ sgn = 1) (x : Ied) : Wed := ⟨(x.1.2, x.1.2.sd * sgn), x.2, mul_sgn x.2.sd hs⟩
set_option maxRecDepth 100000 in
set_option maxHeartbeats 6400000 in
theorem walk_yields (g : Nat) (lb : Array Value) (eg : ∀ args w, (callFunc g args).run Try.prog w = .ok (.enter g args) w) (sgn : Int) (hs : sgn = -1 ∨ sgn = 1) {S Sp : List Ied → Prop} {N : Nat} (Ba Be n₀ : Nat) (w : World) (hn : n₀ ≤ w.heap.size)
    (hBa : Ba < n₀) (hBe : Be < n₀) (hA : w.heap[Ba]? = some (.cells #[.func (.func g) #[] lb] 61 (0, 0))) (hE : w.heap[Be]? = some (.cells #[.int .i64 sgn] 63 (0, 0)))
    (hy : Yields Try.prog g lb iedE (Below n₀) S Sp N w) :
    Yields Try.prog 33 #[.pointer (some ⟨Ba, 0, none⟩), .pointer (some ⟨Be, 0, none⟩)] wedE (Below n₀) (fun ys => ∃ xs, S xs ∧ ys = xs.map (toW sgn hs)) (fun ys => ∃ xs, Sp xs ∧ ys = xs.map (toW sgn hs)) N w := by
  intro l J Jx W hW hJ hJx hY h0
  have hA1 := (hW.block Ba (by omega)).trans hA
  have hE1 := (hW.block Be (by omega)).trans hE
  have hzW := hW.size
  obtain ⟨a0, _⟩ := one_at16 hA1
  refine callsIn_of_wp_marks Try.func33 rfl trivial ?_ rfl
  simp only [Try.ntmps33, List.size_toArray, List.length_cons, List.length_nil, Nat.reduceAdd, Nat.reduceSub, Array.replicate_succ, Array.replicate_zero, List.push_toArray, List.append_toArray, List.nil_append, List.cons_append]
  have hY1 : (W.alloc (.cells #[.func (.yield l) #[] #[]] 71)).heap[W.heap.size]? = some (.cells #[.func (.yield l) #[] #[]] 71 (0, 0)) := heap_alloc_new _ _
  have hE2 := (Below.heap_alloc W (.cells #[.func (.yield l) #[] #[]] 71) Be (by omega)).trans hE1
  have a1 : (W.alloc (.cells #[.func (.yield l) #[] #[]] 71)).cell? ⟨Ba, 0, none⟩ = some (.func (.func g) #[] lb) := (cell_same (Below.heap_alloc W (.cells #[.func (.yield l) #[] #[]] 71) Ba (by omega)) 0).trans a0
  have hB2 := hW.alloc (by omega) (.cells #[.func (.yield l) #[] #[]] 71)
  have hz2 := World.size_alloc W (.cells #[.func (.yield l) #[] #[]] 71)
  have h02 := hJ.alloc (.cells #[.func (.yield l) #[] #[]] 71) h0
  generalize hw2 : W.alloc (.cells #[.func (.yield l) #[] #[]] 71) = W2 at *
  clear hA hA1 a0 hE hE1 h0
  gi_wp2_with (first | (rw [hw2]))
  refine range_yields (gf := g) (lb := lb) rfl eg hy (fun h k => h.trans k) (fun X k o o' hk ho hc => (Below.refl n₀ X).grown (grownBy_putObj' X k o') (by have := (Array.getElem?_eq_some_iff.1 ho).1; omega) (fun j e => by cases e; omega)) hB2 (fun _ => rfl)
    (fun pre X => J (pre.map (toW sgn hs)) X ∧ X.heap[W.heap.size]? = some (.cells #[.func (.yield l) #[] #[]] 71 (0, 0)) ∧ X.heap[Be]? = some (.cells #[.int .i64 sgn] 63 (0, 0)) ∧ W2.heap.size ≤ X.heap.size)
    (fun c pre X => c = .ret ∧ Jx (pre.map (toW sgn hs)) X)
    (OwnFrom.and (fun s X Y row h hg hr => own_weaken hJ (by omega) _ X Y row h hg hr) (OwnFrom.and ((blk_own16 _ _ fun _ => rfl).from _) (OwnFrom.and ((blk_own16 _ _ fun _ => rfl).from _) ((lt_own16 _).from _))))
    (fun c => OwnFrom.and (ownFrom_pure _ _) (fun s X Y row h hg hr => own_weaken hJx (by omega) _ X Y row h hg hr))
    ⟨h02, hY1, hE2, Nat.le_refl _⟩
    (fun x a' X => ∃ Bx, W2.heap.size ≤ Bx ∧ X.heap[Bx]? = some (.cells #[.int .i64 x.1.2.at_, .int .i64 x.1.2.sd] 65 (0, 0)) ∧ a' = { tmps := #[.func (.yield l) #[] #[], .pointer (some ⟨Ba, 0, none⟩), .pointer (some ⟨Be, 0, none⟩), .pointer (some ⟨W.heap.size, 0, none⟩), undef, .pointer (some ⟨Bx, 0, none⟩), .func (.func g) #[] lb, .int .i64 (x.1.1 : Int), .agg #[.int .i64 x.1.2.at_, .int .i64 x.1.2.sd], undef, undef, undef, undef, undef, undef, undef, undef], defers := [] })
    (fun x a' s X Y row h hg hr => by
      obtain ⟨Bx, h1, h2, h3⟩ := h
      exact ⟨Bx, h1, (blk_own16 Bx (fun _ : Unit => _) fun _ => rfl).from _ () X Y row h2 hg hr, h3⟩)
    ?assign ?body ?done ?stop
  case assign =>
    rintro lp pre x X K ⟨h1, h2, h3, h4⟩ hK
    unfold iedE Eg.val
    gi_wp2_with fail
    exact hK _ _ (Fixed.alloc _ _ _) ((Below.refl _ X).alloc (by omega) _) ⟨hJ.alloc _ h1, (Below.heap_alloc X _ _ (by omega)).trans h2, (Below.heap_alloc X _ _ (by omega)).trans h3, by rw [World.size_alloc]; omega⟩ ⟨X.heap.size, h4, heap_alloc_new _ _, rfl⟩
  case body =>
    rintro lp pre x a' X hlp ⟨h1, h2, h3, h4⟩ ⟨Bx, hBx, hblk, rfl⟩ hlt
    obtain ⟨y0, _⟩ := one_at16 h2
    obtain ⟨e0, _⟩ := one_at16 h3
    obtain ⟨x0, x1, _⟩ := two_at16 hblk
    have hyy := hY (pre.map (toW sgn hs)) (toW sgn hs x) X h1 (by rw [List.length_map]; exact hlt)
    have hm := mul_sgn x.2.sd hs
    have hw : wrap64 (x.1.2.sd * sgn) = x.1.2.sd * sgn := by
      generalize x.1.2.sd * sgn = m at *
      have := IntKind.wrap_i64 m
      unfold wrap64
      omega
    obtain ⟨fn, tmps, assign, body, hy, hR⟩ := hyy
    unfold wedE toW Eg.val at hy
    dsimp only at hy
    have H := Lib.hid (And.intro h1 (And.intro h2 h3))
    clear h1 h2 h3 hblk hm
    gi_wp2_with fail
    refine ⟨rfl, RoundIn.mono (F := Fence.wide.inRound lp) hR ?_⟩
    rintro e X3 ⟨hkf, ⟨rfl, hJ3, hkp⟩ | ⟨rfl, hJx3⟩⟩
    · have E1 := Lib.hid (And.intro hJ3 (And.intro hkf hkp))
      clear hJ3 hkf hkp
      gi_wp2_with fail
      obtain ⟨hJ3, hkf, hkp⟩ := E1.out
      obtain ⟨h1, h2, h3⟩ := H.out
      have := hkf.size
      exact ⟨hkf.weaken (by omega), hkp, by rw [List.map_append]; exact hJ3, hkf.keep (Nat.le_refl _) h2, (hkp.block Be hBe).trans h3, by omega⟩
    · have E1 := Lib.hid (And.intro hJx3 hkf)
      clear hJx3 hkf
      gi_wp2_with fail
      obtain ⟨hJx3, hkf⟩ := E1.out
      exact ⟨hkf.weaken (by omega), rfl, by rw [List.map_append]; exact hJx3⟩
  case done =>
    rintro D xs X hD hS ⟨h1, _⟩ hK
    gi_wp2_with fail
    refine ⟨by simp, .inl ⟨_, _, rfl, run_takeDeferred hK, ?_⟩⟩
    exact ⟨_, by simp [results, Try.results33, go_sem]; rfl, ⟨_, rfl⟩, .inl ⟨_, ⟨xs, hS, rfl⟩, hJ.putObj _ h1 (by omega) hK rfl⟩⟩
  case stop =>
    rintro D c pre X hD hSp ⟨rfl, h1⟩ hK
    gi_wp2_with fail
    refine ⟨by simp, .inl ⟨_, _, rfl, run_takeDeferred hK, ?_⟩⟩
    exact ⟨_, by simp [results, Try.results33, go_sem]; rfl, ⟨_, rfl⟩, .inr ⟨_, ⟨pre, hSp, rfl⟩, hJx.putObj _ h1 (by omega) hK rfl⟩⟩
end Go.Proofs.Ytkbjmcgnjhpkiaa.W
