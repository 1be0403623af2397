import Derived.Test.YtekdablolacgfaaGreatCqI
import Derived.Test.YtekdablolacgfaaGreatRows
import Derived.Test.YtekdablolacgfaaGreatQtB
import Derived.ChangeArms
import Derived.WalkSpells
import Derived.WalkLawsBesides
import Derived.Deep.DeepCutAuto
import Derived.Deep.RegionHeld3
import Derived.OpenShut
import Derived.ChangeOld
import Derived.ShutString
import Derived.WideShapes
import Derived.Handy
import Derived.WalkKit
import Derived.Lib.Hide
import Derived.BigQuiet
import Derived.Test.YtekdablolacgfaaGreatFixC
import Derived.Test.YtekdablolacgfaaGreatFdefs
import Derived.Test.YtekdablolacgfaaGreatWideC
import Derived.Test.YtekdablolacgfaaGreatFixB
import Derived.Test.YtekdablolacgfaaGreatRowS
import Derived.Test.YtekdablolacgfaaGreatHdZ
import Derived.Deep.AppendLies
import Derived.Deep.Fields
/- Layer 18's laws: numbers that are written down as a list; that two tell their middle. -/
namespace Go.Proofs.YtekdablolacgfaaGreat.W
open Go.RowKit Go.Sort Go.ChangeShapes Go.WideShapes
set_option linter.unusedVariables false
set_option linter.unusedSimpArgs false
/-- Two numbers in a block of their own are a list that is read. -/
theorem two_lit {w : World} {b : Nat} {x y : Int} {t : TypeId} (h : w.heap[b]? = some (.cells #[.int .i64 x, .int .i64 y] t (0, 0))) : SlAt (fun c => c = b) 1 (oneE .i64) w (.slice (some ⟨b, 0, none⟩) 2 2) [x, y] := by
  refine .inr ⟨b, 0, 2, rfl, rfl, fun i z hz j u hu => ?_⟩
  have hj : j = 0 := by have := (List.getElem?_eq_some_iff.1 hu).1; simp [oneE] at this; exact this
  subst hj
  simp [oneE] at hu
  subst hu
  match i, hz with
  | 0, hz => simp at hz; subst hz; simp [World.cell?, h]
  | 1, hz => simp at hz; subst hz; simp [World.cell?, h]
theorem shown_mean : meanC [0, 42949672960] [4294967296, 4294967296] 0 85899345920 = 21474836480 := by decide +kernel
theorem shown_wt : wtI 4294967296 = 4294967296 := by decide +kernel
theorem shown_lead : leadI [] [] 0 = -1 := by decide +kernel
set_option maxRecDepth 100000 in
set_option maxHeartbeats 6400000 in
theorem shown18_any (w : World) : Calls Tryz.prog 4 #[] w fun e w' => e = .returned (.bool true) ∧ Below w.heap.size w w' := by
  have c2 := cwt_any 4294967296 (by decide)
  have c3 := fun w => cchoose_any [] (by simp) (by simp) [] (by simp) (by simp) 0 (by decide) (F := fun _ => False) (G := fun _ => False) (vl := .slice none 0 0) (vk := .slice none 0 0) w (.inl ⟨none, 0, rfl, fun _ => rfl, rfl⟩) (.inl ⟨none, 0, rfl, fun _ => rfl, rfl⟩) (fun _ h => h.elim) (fun _ h => h.elim)
  rw [shown_wt] at c2
  rw [shown_lead] at c3
  have hA := (Below.refl w.heap.size w).alloc (Nat.le_refl _) (.cells #[.int .i64 0, .int .i64 42949672960] 2)
  have hB := hA.alloc hA.size (.cells #[.int .i64 4294967296, .int .i64 4294967296] 2)
  have s1 := two_lit (heap_first w (.cells #[.int .i64 0, .int .i64 42949672960] 2) (.cells #[.int .i64 4294967296, .int .i64 4294967296] 2))
  have s2 := two_lit (heap_second w (.cells #[.int .i64 0, .int .i64 42949672960] 2) (.cells #[.int .i64 4294967296, .int .i64 4294967296] 2))
  have c1 := cmean18_any [0, 42949672960] [4294967296, 4294967296] (by decide) (by decide) (by decide) (by decide) 0 85899345920 (by decide) (by decide) _ s1 s2 (fun b e => by subst e; simp; omega) (fun b e => by subst e; simp)
  rw [shown_mean] at c1
  clear s1 s2 hA
  go_enter Tryz.func4, Tryz.ntmps4
  go_wp2_with fail
  (with_reducible refine c1.mono ?_)
  rintro e w2 ⟨rfl, h2⟩
  have B2 := hB.trans (h2.mono hB.size)
  clear hB h2 c1
  go_wp2_with fail
  (with_reducible refine (c2 _).mono ?_)
  rintro e w3 ⟨rfl, h3⟩
  replace B2 := B2.trans (h3.mono B2.size)
  clear h3
  go_wp2_with fail
  (with_reducible refine (c3 _).mono ?_)
  rintro e w4 ⟨rfl, h4⟩
  replace B2 := B2.trans (h4.mono B2.size)
  clear h4
  have BB := Lib.hid B2
  clear B2
  go_wp2_with fail
  go_ret
  exact ⟨rfl, BB.out⟩
end Go.Proofs.YtekdablolacgfaaGreat.W

/- Layer 18's laws: which one leads, by the document; servers turned into the document's. -/
namespace Go.Proofs.YtekdablolacgfaaGreat.W
open Go.RowKit Go.Sort
set_option linter.unusedVariables false
set_option linter.unusedSimpArgs false
theorem svC_len18 (s : Sv) : (svC s).length = 11 := rfl
theorem sv_row18 (w : World) (s : Sv) (t : TypeId) : ∀ j u, (svC s)[j]? = some u → (w.alloc (.cells (svA s) t)).cell? ((⟨w.heap.size, 0, none⟩ : Addr).add j) = some u := by
  intro j u hu
  rw [Addr.add_lit, Nat.zero_add]
  have e : (svA s)[j]? = (svC s)[j]? := by
    have e' : svA s = (svC s).toArray := rfl
    rw [e', List.getElem?_toArray]
  simp only [World.cell?, heap_alloc_new]
  rw [← hu]
  exact e
theorem svC_one18 (s : Sv) : ∀ u ∈ svC s, u.oneCell' = true := by
  intro u hu
  simp only [svC, List.mem_cons, List.not_mem_nil, or_false] at hu
  rcases hu with rfl | rfl | rfl | rfl | rfl | rfl | rfl | rfl | rfl | rfl | rfl <;> rfl
end Go.Proofs.YtekdablolacgfaaGreat.W

