/- Layer 18's laws: numbers that are written down as a list; that two tell their middle. -/
import Derived.Test.YtekdablolacgfaaCqX
import Derived.Test.YtekdablolacgfaaRows
import Derived.Test.YtekdablolacgfaaQtB
import Derived.ChangeArms
import Derived.WalkSpells
import Derived.WalkLawsBesides
import Derived.Deep.DeepCutAuto
import Derived.Deep.RegionHeld3
import Derived.OpenShut
import Derived.ChangeOld
import Derived.ShutString
import Derived.WideShapes
import Derived.Handy
import Derived.WalkKit
import Derived.Lib.Hide
import Derived.BigQuiet
namespace Go.Proofs.Ytekdablolacgfaa.W
open Go.RowKit Go.Sort Go.ChangeShapes Go.WideShapes
set_option linter.unusedVariables false
set_option linter.unusedSimpArgs false
/-- Two numbers in a block of their own are a list that is read. -/
theorem two_lit {w : World} {b : Nat} {x y : Int} {t : TypeId} (h : w.heap[b]? = some (.cells #[.int .i64 x, .int .i64 y] t (0, 0))) : SlAt (fun c => c = b) 1 (oneE .i64) w (.slice (some ⟨b, 0, none⟩) 2 2) [x, y] := by
  refine .inr ⟨b, 0, 2, rfl, rfl, fun i z hz j u hu => ?_⟩
  have hj : j = 0 := by have := (List.getElem?_eq_some_iff.1 hu).1; simp [oneE] at this; exact this
  subst hj
  simp [oneE] at hu
  subst hu
  match i, hz with
  | 0, hz => simp at hz; subst hz; simp [World.cell?, h]
  | 1, hz => simp at hz; subst hz; simp [World.cell?, h]
/-- Of two the mean is nearer to the nearer one's offset. -/
theorem near_two {x y a b : Int} (hx : -2147483648 ≤ x ∧ x ≤ 2147483647) (hy : -2147483648 ≤ y ∧ y ≤ 2147483647) (hab : a ≤ b) (ha : 0 ≤ a) (hb : b ≤ 4294967295) {m : Int} (hm : meanC [x, y] [a, b] (-1125899906842624) 1125899906842624 = m) :
    min x y - 2 ≤ m ∧ m ≤ max x y ∧ ((x ≤ y → 2 * m ≤ x + y) ∧ (y < x → x + y - 4 ≤ 2 * m)) := by
  have h := two_mean x y a b hx hy hab ha hb _ rfl
  have e : meanC [x, y] [a, b] (-1125899906842624) 1125899906842624 = divI (sumO [x, y] [a, b] 2) (sumW [a, b] 2) := by
    unfold meanC
    show clampI (divI (sumO [x, y] [a, b] 2) (sumW [a, b] 2)) _ _ = _
    generalize divI (sumO [x, y] [a, b] 2) (sumW [a, b] 2) = q at *
    unfold clampI cutI
    rw [if_neg (by omega), if_neg (by omega)]
    omega
  rw [e] at hm
  rwa [hm] at h
theorem laid18 {v : World} {k : Nat} {c : Obj} (ob : Obj) (h : v.heap[k]? = some c) : (v.alloc ob).heap[k]? = some c :=
  (((Below.refl v.heap.size v).alloc (Nat.le_refl _) ob).block k (Array.getElem?_eq_some_iff.1 h).1).trans h
theorem two_in18 {w : World} {b : Nat} {x y : Value} {t : TypeId} (h : w.heap[b]? = some (.cells #[x, y] t (0, 0))) : w.cell? ⟨b, 0, none⟩ = some x ∧ w.cell? ⟨b, 1, none⟩ = some y := by constructor <;> simp [World.cell?, h]
theorem two_typed {x y : Int} {P : Int → Prop} (hx : P x) (hy : P y) : ∀ z ∈ [x, y], P z := fun z h => by
  simp at h
  rcases h with rfl | rfl <;> assumption
theorem shown_mean : meanC [0, 42949672960] [4294967296, 4294967296] 0 85899345920 = 21474836480 := by decide +kernel
theorem shown_wt : wtI 4294967296 = 4294967296 := by decide +kernel
theorem shown_lead : leadI [] [] 0 = -1 := by decide +kernel
set_option maxRecDepth 100000 in
set_option maxHeartbeats 6400000 in
theorem shown18_any (w : World) : Calls Try.prog 7 #[] w fun e w' => e = .returned (.bool true) ∧ Below w.heap.size w w' := by
  have c2 := cwt_any 4294967296 (by decide)
  have c3 := fun w => cchoose_any [] (by simp) (by simp) [] (by simp) (by simp) 0 (by decide) (F := fun _ => False) (G := fun _ => False) (vl := .slice none 0 0) (vk := .slice none 0 0) w (.inl ⟨none, 0, rfl, fun _ => rfl, rfl⟩) (.inl ⟨none, 0, rfl, fun _ => rfl, rfl⟩) (fun _ h => h.elim) (fun _ h => h.elim)
  rw [shown_wt] at c2
  rw [shown_lead] at c3
  have hA := (Below.refl w.heap.size w).alloc (Nat.le_refl _) (.cells #[.int .i64 0, .int .i64 42949672960] 2)
  have hB := hA.alloc hA.size (.cells #[.int .i64 4294967296, .int .i64 4294967296] 2)
  have s1 := two_lit (heap_first w (.cells #[.int .i64 0, .int .i64 42949672960] 2) (.cells #[.int .i64 4294967296, .int .i64 4294967296] 2))
  have s2 := two_lit (heap_second w (.cells #[.int .i64 0, .int .i64 42949672960] 2) (.cells #[.int .i64 4294967296, .int .i64 4294967296] 2))
  have c1 := cmean_any [0, 42949672960] [4294967296, 4294967296] (by decide) (by decide) (by decide) (by decide) 0 85899345920 (by decide) (by decide) _ s1 s2 (fun b e => by subst e; simp; omega) (fun b e => by subst e; simp)
  rw [shown_mean] at c1
  clear s1 s2 hA
  go_enter Try.func7, Try.ntmps7
  go_wp2_with fail
  (with_reducible refine c1.mono ?_)
  rintro e w2 ⟨rfl, h2⟩
  have B2 := hB.trans (h2.mono hB.size)
  clear hB h2 c1
  go_wp2_with fail
  (with_reducible refine (c2 _).mono ?_)
  rintro e w3 ⟨rfl, h3⟩
  replace B2 := B2.trans (h3.mono B2.size)
  clear h3
  go_wp2_with fail
  (with_reducible refine (c3 _).mono ?_)
  rintro e w4 ⟨rfl, h4⟩
  replace B2 := B2.trans (h4.mono B2.size)
  clear h4
  have BB := Lib.hid B2
  clear B2
  go_wp2_with fail
  go_ret
  exact ⟨rfl, BB.out⟩
end Go.Proofs.Ytekdablolacgfaa.W
