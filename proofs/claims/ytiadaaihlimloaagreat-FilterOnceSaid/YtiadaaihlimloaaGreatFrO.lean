import Derived.Test.YtiadaaihlimloaaGreatFrA
/- Layer 14 as numbers: the newest ones, by their places; what is told does not hang on corrections. No program in it. -/
namespace Go.Proofs.YtiadaaihlimloaaGreat.W
open Go.RowKit
set_option linter.unusedVariables false
theorem new_mem {l : List Smp} {i : Nat} (hi : i ≤ l.length) {x : Smp} : x ∈ newS l i ↔ ∃ m, i - 8 ≤ m ∧ m < i ∧ l[m]? = some x := by
  unfold newS
  rw [List.mem_iff_getElem?]
  have hlen : (l.take i).length = i := by rw [List.length_take]; omega
  constructor
  · rintro ⟨k, hk⟩
    have k8 : k < 8 := by
      have := (List.getElem?_eq_some_iff.1 hk).1
      rw [List.length_take] at this
      omega
    rw [List.getElem?_take_of_lt k8] at hk
    have ki : k < i := by
      have := (List.getElem?_eq_some_iff.1 hk).1
      rw [List.length_reverse, hlen] at this
      exact this
    rw [List.getElem?_reverse (by rw [hlen]; exact ki), hlen, List.getElem?_take_of_lt (by omega)] at hk
    exact ⟨i - 1 - k, by omega, by omega, hk⟩
  · rintro ⟨m, h1, h2, h3⟩
    refine ⟨i - 1 - m, ?_⟩
    rw [List.getElem?_take_of_lt (by omega), List.getElem?_reverse (by rw [hlen]; omega), hlen, List.getElem?_take_of_lt (by omega), show i - 1 - (i - 1 - m) = m by omega]
    exact h3
/-- Whether a sample of that delay and that time stands from a place on. -/
def seenB (l : List Smp) (D A : Int) (a : Nat) : Nat → Bool
  | 0 => false
  | m + 1 => seenB l D A a m || (decide (a ≤ m) && (((l.getD m Smp.zero).del == D) && ((l.getD m Smp.zero).at_ == A)))
theorem seen_none (l : List Smp) (D A : Int) (a : Nat) : ∀ m, m ≤ a → seenB l D A a m = false
  | 0, _ => rfl
  | m + 1, h => by
    unfold seenB
    rw [seen_none l D A a m (by omega), show decide (a ≤ m) = false by simp; omega]
    rfl
theorem seen_next (l : List Smp) (D A : Int) (a m : Nat) (h : a ≤ m) {x : Smp} (hx : l[m]? = some x) : seenB l D A a (m + 1) = (seenB l D A a m || ((x.del == D) && (x.at_ == A))) := by
  have e : l.getD m Smp.zero = x := by rw [List.getD_eq_getElem?_getD, hx]; rfl
  show (seenB l D A a m || (decide (a ≤ m) && (((l.getD m Smp.zero).del == D) && ((l.getD m Smp.zero).at_ == A)))) = _
  rw [e, show decide (a ≤ m) = true by simpa using h, Bool.true_and]
theorem seen_stays (l : List Smp) (D A : Int) (a m : Nat) : ∀ k, m ≤ k → seenB l D A a m = true → seenB l D A a k = true := by
  intro k hk hm
  induction k with
  | zero =>
    obtain rfl : m = 0 := by omega
    exact hm
  | succ k ih =>
    by_cases e : m = k + 1
    · subst e
      exact hm
    · show (seenB l D A a k || _) = true
      rw [ih (by omega)]
      rfl
theorem seen_it {l : List Smp} {a m k : Nat} (h : a ≤ m) (hk : m < k) {x : Smp} (hx : l[m]? = some x) : seenB l x.del x.at_ a k = true := by
  refine seen_stays l _ _ a (m + 1) k hk ?_
  rw [seen_next l _ _ a m h hx]
  simp
theorem tell_low (p : Pm) (f : Fl) (own at_ total : Int) (h : f.l ≠ []) : ∃ a b, tellT p f own at_ total = ⟨a, (bestS f.l).del, dispF p (ordS f.l) at_ 8, b, (bestS f.l).at_⟩ := by
  unfold tellT
  rw [if_neg h]
  exact ⟨_, _, rfl⟩
theorem tell_yes {f : Fl} (h : f.l ≠ []) : tellB f = true := by
  unfold tellB
  cases hl : f.l with
  | nil => exact absurd hl h
  | cons a b => rfl
theorem new_some {l : List Smp} (h : l ≠ []) : newS l l.length ≠ [] := by
  intro e
  have := new_length l l.length (Nat.le_refl _)
  rw [e] at this
  have hp := List.length_pos_iff.2 h
  simp at this
  omega
/-- The one that counts stands among the eight newest; nobody of them has a lesser delay. -/
theorem best_new {l : List Smp} (h : l ≠ []) : seenB l (bestS (newS l l.length)).del (bestS (newS l l.length)).at_ (l.length - 8) l.length = true ∧ ∀ m x, l.length - 8 ≤ m → l[m]? = some x → ¬ x.del < (bestS (newS l l.length)).del := by
  obtain ⟨b1, b2⟩ := best_in (new_some h)
  obtain ⟨m, m1, m2, m3⟩ := (new_mem (Nat.le_refl _)).1 b1
  refine ⟨seen_it m1 m2 m3, ?_⟩
  intro k x hk hx
  have := b2 x ((new_mem (Nat.le_refl _)).2 ⟨k, hk, (List.getElem?_eq_some_iff.1 hx).1, hx⟩)
  omega
end Go.Proofs.YtiadaaihlimloaaGreat.W

/- Layer 14 as numbers: what is told once is not told again. No program in it. -/
namespace Go.Proofs.YtiadaaihlimloaaGreat.W
open Go.RowKit
set_option linter.unusedVariables false
theorem rootF_range (a : Int) (h : a ≤ 9223372036854775807) : 0 ≤ rootI a ∧ rootI a ≤ 9223372036854775807 := by
  unfold rootI
  split
  · decide
  · obtain ⟨s1, s2⟩ := isq_spec (a * 4294967296).toNat
    have hb : (a * 4294967296).toNat < 39614081257132168796771975168 := by omega
    have : isq (a * 4294967296).toNat < 281474976710656 := by
      refine Nat.lt_of_not_le fun g => ?_
      have := Nat.mul_le_mul g g
      omega
    omega
theorem jitF_range (o : List Smp) (own total : Int) : -9223372036854775808 ≤ jitF o own total ∧ jitF o own total ≤ 9223372036854775807 := by
  unfold jitF rmsI
  have h1 := powI_range own
  have h2 : ∀ l : List Int, meanI l ≤ 9223372036854775807 := fun l => by
    unfold meanI
    split
    · decide
    · exact (cutI_range _).2
  have h3 := rootF_range (meanI ((o.tail.map fun x => subI (moveI (o.headD Smp.zero) total) (moveI x total)).map fun x => mulI x x)) (h2 _)
  omega
theorem takeF_typed {p : Pm} {f : Fl} (tf : f.Typed) (own poll at_ total : Int) (ht : -9223372036854775808 ≤ total ∧ total ≤ 9223372036854775807) : (takeF p f own poll at_ total).Typed := by
  unfold takeF
  split
  · rename_i he
    have hl : f.l ≠ [] := by
      intro e
      unfold takeE at he
      rw [if_pos e] at he
      cases he
    have tb := tf.l _ (best_in hl).1
    unfold tellT
    rw [if_neg hl]
    refine ⟨tf.l, tf.many, tb.at_, ?_, ht, jitF_range _ _ _⟩
    have := subI_range (bestS f.l).off (subI total (bestS f.l).total)
    exact ⟨by show -9223372036854775808 ≤ subI (bestS f.l).off (subI total (bestS f.l).total); omega, by show subI (bestS f.l).off (subI total (bestS f.l).total) ≤ _; omega⟩
  · exact tf
/-- What is taken. -/
theorem take_ok {p : Pm} {f : Fl} {own poll at_ total : Int} (h : takeE p f own poll at_ total = 0) :
    f.l ≠ [] ∧ (f.had = true → f.used < (bestS f.l).at_) ∧ (takeF p f own poll at_ total).l = f.l ∧ (takeF p f own poll at_ total).had = true ∧ (takeF p f own poll at_ total).used = (bestS f.l).at_ ∧
      (∃ a b c d, takeT p f own poll at_ total = ⟨a, b, c, d, (bestS f.l).at_⟩) ∧ takeE p (takeF p f own poll at_ total) own poll at_ total = 140 := by
  have hl : f.l ≠ [] := by
    intro e
    unfold takeE at h
    rw [if_pos e] at h
    cases h
  obtain ⟨a, b, hT⟩ := tell_low p f own at_ total hl
  have hF : takeF p f own poll at_ total = ⟨f.l, true, (bestS f.l).at_, a, total, b⟩ := by
    unfold takeF
    rw [if_pos h, hT]
  have hu : f.had = true → f.used < (bestS f.l).at_ := by
    intro hh
    refine Int.not_le.1 fun g => ?_
    unfold takeE at h
    rw [if_neg hl, if_pos ⟨hh, by rw [hT]; exact g⟩] at h
    cases h
  rw [hF]
  refine ⟨hl, hu, rfl, rfl, rfl, ⟨a, (bestS f.l).del, dispF p (ordS f.l) at_ 8, b, by unfold takeT; rw [if_pos h, hT]⟩, ?_⟩
  unfold takeE
  obtain ⟨a', b', hT'⟩ := tell_low p ⟨f.l, true, (bestS f.l).at_, a, total, b⟩ own at_ total hl
  rw [if_neg hl, if_pos ⟨rfl, by rw [hT']; exact Int.le_refl _⟩]
theorem take_no {p : Pm} {f : Fl} {own poll at_ total : Int} (h : takeE p f own poll at_ total ≠ 0) : takeF p f own poll at_ total = f := by
  unfold takeF
  rw [if_neg h]
/-- A filter of samples that came by now; what was told last. -/
structure Once (f : Fl) (k : Nat) (now last : Int) : Prop where
  typed : f.Typed
  many : f.l.length = min k 8
  old : ∀ s ∈ f.l, 0 ≤ s.at_ ∧ s.at_ ≤ now
  last : (f.had = false ∧ last = -1) ∨ (f.had = true ∧ last = f.used)
theorem once_zero : Once ⟨[], false, 0, 0, 0, 0⟩ 0 0 (-1) := ⟨⟨by intro s hs; simp at hs, by decide, by decide, by decide, by decide, by decide⟩, rfl, by intro s hs; simp at hs, .inl ⟨rfl, rfl⟩⟩
theorem once_put {f : Fl} {k : Nat} {now last now' : Int} (o : Once f k now last) (h0 : 0 ≤ now) (h : now ≤ now') {s : Smp} (ts : s.Typed) (hs : s.at_ = now') : Once (putF f s) (k + 1) now' last := by
  refine ⟨put_typed o.typed ts, ?_, ?_, ?_⟩
  · have := o.many
    unfold putF
    dsimp only
    rw [List.length_take, List.length_cons]
    omega
  · intro x hx
    rcases List.mem_cons.1 (List.mem_of_mem_take hx) with rfl | g
    · omega
    · have := o.old x g
      omega
  · exact o.last
theorem once_take {p : Pm} {f : Fl} {k : Nat} {now last : Int} (o : Once f k now last) {own poll : Int} (hn : -9223372036854775808 ≤ now ∧ now ≤ 9223372036854775807) (h : takeE p f own poll now 0 = 0) :
    Once (takeF p f own poll now 0) k now (bestS f.l).at_ ∧ last < (bestS f.l).at_ ∧ (bestS f.l).at_ ≤ now := by
  obtain ⟨a1, a2, a3, a4, a5, _, _⟩ := take_ok h
  have b := o.old _ (best_in a1).1
  refine ⟨⟨takeF_typed o.typed _ _ _ _ (by decide), by rw [a3]; exact o.many, by rw [a3]; exact o.old, .inr ⟨a4, a5.symm⟩⟩, ?_, b.2⟩
  rcases o.last with ⟨_, g⟩ | ⟨g, g'⟩
  · omega
  · have := a2 g
    omega
end Go.Proofs.YtiadaaihlimloaaGreat.W

