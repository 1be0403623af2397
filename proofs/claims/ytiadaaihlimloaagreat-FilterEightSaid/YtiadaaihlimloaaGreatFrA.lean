/- Layer 14 as numbers: a filter's samples. No program in it. -/
import Derived.Test.YtiadaaihlimloaaGreatSmA
namespace Go.Proofs.YtiadaaihlimloaaGreat.W
open Go.RowKit
set_option linter.unusedVariables false
/-- A filter: its samples, the newest one first; what was told last. -/
structure Fl where
  l : List Smp
  had : Bool
  used : Int
  off : Int
  total : Int
  jit : Int
structure Told where
  off : Int
  del : Int
  disp : Int
  jit : Int
  at_ : Int
def Told.zero : Told := ⟨0, 0, 0, 0, 0⟩
def Told.val (t : Told) : Value := .agg #[.int .i64 t.off, .int .i64 t.del, .int .i64 t.disp, .int .i64 t.jit, .int .i64 t.at_]
structure Told.Typed (s : Told) : Prop where
  off : -9223372036854775808 ≤ s.off ∧ s.off ≤ 9223372036854775807
  del : -9223372036854775808 ≤ s.del ∧ s.del ≤ 9223372036854775807
  disp : -9223372036854775808 ≤ s.disp ∧ s.disp ≤ 9223372036854775807
  jit : -9223372036854775808 ≤ s.jit ∧ s.jit ≤ 9223372036854775807
  at_ : -9223372036854775808 ≤ s.at_ ∧ s.at_ ≤ 9223372036854775807
structure Fl.Typed (f : Fl) : Prop where
  l : ∀ s ∈ f.l, s.Typed
  many : f.l.length ≤ 8
  used : -9223372036854775808 ≤ f.used ∧ f.used ≤ 9223372036854775807
  off : -9223372036854775808 ≤ f.off ∧ f.off ≤ 9223372036854775807
  total : -9223372036854775808 ≤ f.total ∧ f.total ≤ 9223372036854775807
  jit : -9223372036854775808 ≤ f.jit ∧ f.jit ≤ 9223372036854775807
/-- The sample in a place; none is zero. -/
def Fl.at_ (f : Fl) (k : Nat) : Smp := f.l.getD k Smp.zero
def smE (s : Smp) : List Value := [.int .i64 s.off, .int .i64 s.del, .int .i64 s.disp, .int .i64 s.at_, .int .i64 s.total]
/-- A filter's cells, written out. -/
def Fl.cells (f : Fl) : Array Value :=
  #[.int .i64 (f.at_ 0).off, .int .i64 (f.at_ 0).del, .int .i64 (f.at_ 0).disp, .int .i64 (f.at_ 0).at_, .int .i64 (f.at_ 0).total,
    .int .i64 (f.at_ 1).off, .int .i64 (f.at_ 1).del, .int .i64 (f.at_ 1).disp, .int .i64 (f.at_ 1).at_, .int .i64 (f.at_ 1).total,
    .int .i64 (f.at_ 2).off, .int .i64 (f.at_ 2).del, .int .i64 (f.at_ 2).disp, .int .i64 (f.at_ 2).at_, .int .i64 (f.at_ 2).total,
    .int .i64 (f.at_ 3).off, .int .i64 (f.at_ 3).del, .int .i64 (f.at_ 3).disp, .int .i64 (f.at_ 3).at_, .int .i64 (f.at_ 3).total,
    .int .i64 (f.at_ 4).off, .int .i64 (f.at_ 4).del, .int .i64 (f.at_ 4).disp, .int .i64 (f.at_ 4).at_, .int .i64 (f.at_ 4).total,
    .int .i64 (f.at_ 5).off, .int .i64 (f.at_ 5).del, .int .i64 (f.at_ 5).disp, .int .i64 (f.at_ 5).at_, .int .i64 (f.at_ 5).total,
    .int .i64 (f.at_ 6).off, .int .i64 (f.at_ 6).del, .int .i64 (f.at_ 6).disp, .int .i64 (f.at_ 6).at_, .int .i64 (f.at_ 6).total,
    .int .i64 (f.at_ 7).off, .int .i64 (f.at_ 7).del, .int .i64 (f.at_ 7).disp, .int .i64 (f.at_ 7).at_, .int .i64 (f.at_ 7).total,
    .int .i64 f.l.length, .bool f.had, .int .i64 f.used, .int .i64 f.off, .int .i64 f.total, .int .i64 f.jit]
def Fl.val (f : Fl) : Value := .agg f.cells
def putF (f : Fl) (s : Smp) : Fl := ⟨(s :: f.l).take 8, f.had, f.used, f.off, f.total, f.jit⟩
theorem put_typed {f : Fl} {s : Smp} (tf : f.Typed) (ts : s.Typed) : (putF f s).Typed := by
  refine ⟨?_, ?_, tf.used, tf.off, tf.total, tf.jit⟩
  · intro x hx
    have := List.mem_of_mem_take hx
    rcases List.mem_cons.1 this with rfl | h
    · exact ts
    · exact tf.l x h
  · unfold putF
    rw [List.length_take]
    omega
/-- By their delays, the least one first; of the same the newest one first. -/
def insS (s : Smp) : List Smp → List Smp
  | [] => [s]
  | x :: r => if s.del < x.del then s :: x :: r else x :: insS s r
def ordS (l : List Smp) : List Smp := l.foldl (fun acc s => insS s acc) []
theorem insS_mem {s x : Smp} {l : List Smp} : x ∈ insS s l ↔ x = s ∨ x ∈ l := by
  induction l with
  | nil => simp [insS]
  | cons y l ih =>
    unfold insS
    split
    · simp
    · simp [ih]
      constructor
      · rintro (h | h | h)
        · exact .inr (.inl h)
        · exact .inl h
        · exact .inr (.inr h)
      · rintro (h | h | h)
        · exact .inr (.inl h)
        · exact .inl h
        · exact .inr (.inr h)
theorem insS_length (s : Smp) (l : List Smp) : (insS s l).length = l.length + 1 := by
  induction l with
  | nil => rfl
  | cons y l ih =>
    unfold insS
    split
    · simp
    · simp [ih]
theorem fold_ins_mem {x : Smp} : ∀ (l acc : List Smp), x ∈ l.foldl (fun acc s => insS s acc) acc ↔ x ∈ l ∨ x ∈ acc
  | [], acc => by simp
  | y :: l, acc => by
    rw [List.foldl_cons, fold_ins_mem l, insS_mem]
    simp
    constructor
    · rintro (h | h | h)
      · exact .inl (.inr h)
      · exact .inl (.inl h)
      · exact .inr h
    · rintro ((h | h) | h)
      · exact .inr (.inl h)
      · exact .inl h
      · exact .inr (.inr h)
theorem ord_mem {x : Smp} {l : List Smp} : x ∈ ordS l ↔ x ∈ l := by
  unfold ordS
  rw [fold_ins_mem]
  simp
theorem fold_ins_length : ∀ (l acc : List Smp), (l.foldl (fun acc s => insS s acc) acc).length = l.length + acc.length
  | [], acc => by simp
  | y :: l, acc => by
    rw [List.foldl_cons, fold_ins_length l, insS_length, List.length_cons]
    omega
theorem ord_length (l : List Smp) : (ordS l).length = l.length := by
  unfold ordS
  rw [fold_ins_length]
  simp
/-- Nobody in it has a lesser delay than the first one. -/
def Least (l : List Smp) : Prop := ∀ b, l.head? = some b → ∀ x ∈ l, b.del ≤ x.del
theorem insS_least (s : Smp) : ∀ l, Least l → Least (insS s l)
  | [], h => by
    intro b hb x hx
    simp [insS] at hb hx
    subst hb hx
    exact Int.le_refl _
  | y :: l, h => by
    intro b hb x hx
    have hy := h y rfl
    unfold insS at hb hx
    split at hb
    · rename_i hlt
      rw [if_pos hlt] at hx
      simp at hb
      subst hb
      rcases List.mem_cons.1 hx with rfl | hx
      · exact Int.le_refl _
      · have := hy x hx
        omega
    · rename_i hlt
      rw [if_neg hlt] at hx
      simp at hb
      subst hb
      rcases List.mem_cons.1 hx with rfl | hx
      · exact Int.le_refl _
      · rcases insS_mem.1 hx with rfl | hx
        · omega
        · exact hy x (List.mem_cons_of_mem _ hx)
theorem fold_ins_least : ∀ (l acc : List Smp), Least acc → Least (l.foldl (fun acc s => insS s acc) acc)
  | [], acc, h => h
  | y :: l, acc, h => by
    rw [List.foldl_cons]
    exact fold_ins_least l _ (insS_least y acc h)
theorem ord_least (l : List Smp) : Least (ordS l) := fold_ins_least l [] (fun b hb => by simp at hb)
/-- The one that counts. -/
def bestS (l : List Smp) : Smp := (ordS l).headD Smp.zero
theorem best_in {l : List Smp} (h : l ≠ []) : bestS l ∈ l ∧ ∀ x ∈ l, (bestS l).del ≤ x.del := by
  have hn : ordS l ≠ [] := by
    intro e
    have := ord_length l
    rw [e] at this
    exact h (List.eq_nil_of_length_eq_zero this.symm)
  obtain ⟨b, r, e⟩ := List.exists_cons_of_ne_nil hn
  have hb : bestS l = b := by unfold bestS; rw [e]; rfl
  have hl := ord_least l b (by rw [e]; rfl)
  rw [hb]
  exact ⟨ord_mem.1 (by rw [e]; exact List.mem_cons_self), fun x hx => hl x (ord_mem.2 hx)⟩
/-- Dispersions, each half as much as the one ahead. -/
def agesF (p : Pm) (o : List Smp) (at_ : Int) (i : Nat) : Int := if h : i < o.length then ageI p (o[i]'h) at_ else 68719476736
def dispF (p : Pm) (o : List Smp) (at_ : Int) : Nat → Int
  | 0 => 0
  | n + 1 => addI (dispF p o at_ n) (shiftI (agesF p o at_ n) (-((n : Int) + 1)))
def jitF (o : List Smp) (own total : Int) : Int := max (powI own) (rmsI (o.tail.map fun x => subI (moveI (o.headD Smp.zero) total) (moveI x total)))
def tellT (p : Pm) (f : Fl) (own at_ total : Int) : Told :=
  if f.l = [] then Told.zero else ⟨moveI (bestS f.l) total, (bestS f.l).del, dispF p (ordS f.l) at_ 8, jitF (ordS f.l) own total, (bestS f.l).at_⟩
def tellB (f : Fl) : Bool := !f.l.isEmpty
def farF (f : Fl) (t : Told) (total : Int) : Int := absI (subI t.off (subI f.off (subI total f.total)))
def threeF (f : Fl) : Int := addI (addI f.jit f.jit) f.jit
def takeE (p : Pm) (f : Fl) (own poll at_ total : Int) : Int :=
  if f.l = [] then 3
  else if f.had = true ∧ (tellT p f own at_ total).at_ ≤ f.used then 140
  else if f.had = true ∧ threeF f < farF f (tellT p f own at_ total) total ∧ subI at_ f.used < addI (powI poll) (powI poll) then 141
  else 0
def takeF (p : Pm) (f : Fl) (own poll at_ total : Int) : Fl :=
  if takeE p f own poll at_ total = 0 then ⟨f.l, true, (tellT p f own at_ total).at_, (tellT p f own at_ total).off, total, (tellT p f own at_ total).jit⟩ else f
def takeT (p : Pm) (f : Fl) (own poll at_ total : Int) : Told := if takeE p f own poll at_ total = 0 then tellT p f own at_ total else Told.zero
/-- The newest ones of the first i, at most eight. -/
def newS (l : List Smp) (i : Nat) : List Smp := ((l.take i).reverse).take 8
theorem new_zero (l : List Smp) : newS l 0 = [] := by simp [newS]
theorem new_next (l : List Smp) (i : Nat) (x : Smp) (h : l[i]? = some x) : newS l (i + 1) = (x :: newS l i).take 8 := by
  obtain ⟨hi, rfl⟩ := List.getElem?_eq_some_iff.1 h
  unfold newS
  rw [List.take_succ_eq_append_getElem hi, List.reverse_append]
  show (l[i] :: (l.take i).reverse).take 8 = _
  rw [List.take_succ_cons, List.take_succ_cons, List.take_take]
  rfl
theorem new_typed {l : List Smp} (h : ∀ s ∈ l, s.Typed) (i : Nat) : ∀ s ∈ newS l i, s.Typed := fun s hs => by
  unfold newS at hs
  exact h s (List.mem_of_mem_take (List.mem_reverse.1 (List.mem_of_mem_take hs)))
theorem new_length (l : List Smp) (i : Nat) (hi : i ≤ l.length) : (newS l i).length = min i 8 := by
  unfold newS
  rw [List.length_take, List.length_reverse, List.length_take]
  omega
theorem new_at (l : List Smp) (i k : Nat) (hi : i < l.length) (hk : k < 8) : (newS l (i + 1)).getD k Smp.zero = if k ≤ i then l.getD (i - k) Smp.zero else Smp.zero := by
  unfold newS
  rw [List.getD_eq_getElem?_getD, List.getElem?_take_of_lt hk]
  split
  · rename_i h
    rw [List.getElem?_reverse (by rw [List.length_take]; omega), List.length_take, List.getElem?_take_of_lt (by omega), List.getD_eq_getElem?_getD]
    congr 2
    omega
  · rename_i h
    rw [List.getElem?_eq_none (by rw [List.length_reverse, List.length_take]; omega)]
    rfl
end Go.Proofs.YtiadaaihlimloaaGreat.W
