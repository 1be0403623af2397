import Derived.Test.YtkjecjehphgpjaaGreatFrA
import Derived.Sort.Defs
import Derived.Test.YtkjecjehphgpjaaGreatBgA
import Derived.Test.YtkjecjehphgpjaaGreatChecked
import Derived.ChangeOld
import Derived.Handy
import Derived.WalkKit
import Derived.BigQuiet
import Derived.Test.YtkjecjehphgpjaaGreatSmA
import Derived.Test.YtkjecjehphgpjaaGreatRcA
import Derived.Test.YtkjecjehphgpjaaGreatFixD
import Derived.Test.YtkjecjehphgpjaaGreatHdZ
import Derived.Test.YtkjecjehphgpjaaGreatStX
import Derived.Test.YtkjecjehphgpjaaGreatFixB
import Derived.Test.YtkjecjehphgpjaaGreatQtB
import Derived.Test.YtkjecjehphgpjaaGreatRows
import Derived.Test.YtkjecjehphgpjaaGreatWdefs
import Derived.Test.YtkjecjehphgpjaaGreatHeA
import Derived.Test.YtkjecjehphgpjaaGreatFixC
import Derived.Test.YtkjecjehphgpjaaGreatWideA
import Derived.Test.YtkjecjehphgpjaaGreatStK
import Derived.Test.YtkjecjehphgpjaaGreatSlA
import Derived.Lib.Hide
import Derived.IntWalk
import Derived.RegionCalls
import Derived.Deep.RegionHeld3
import Derived.Deep.DeepCutAuto
import Derived.WalkSpells
import Derived.Lib.QuietBelow
import Derived.Maps.OwnSet
import Derived.Maps.OwnOps
import Derived.Laws.CopyRow
import Derived.WalkLawsBesides
import Derived.Lib.Zigzag
import Derived.OwnWalk
import Derived.OneCell
import Derived.RegionTactic
import Derived.Laws.CopyOwn
import Derived.Shelf.SlSortCmp.Insertion
/- Layer 14 as numbers: places by their delays, as an insertion from the right leaves them. No program in it. -/
namespace Go.Proofs.YtkjecjehphgpjaaGreat.W
open Go.RowKit
set_option linter.unusedVariables false
set_option linter.unusedSimpArgs false
section
variable {α : Type} (key : α → Int)
end
/-- Which of two is less, as a number. -/
def cmp3 (a b : Int) : Int := if a < b then -1 else if b < a then 1 else 0
end Go.Proofs.YtkjecjehphgpjaaGreat.W

/- Layer 14: a filter as one row. -/
namespace Go.Proofs.YtkjecjehphgpjaaGreat.W
open Go.RowKit Go.Sort Go.WideShapes
set_option linter.unusedVariables false
set_option linter.unusedSimpArgs false
@[go_sem] theorem fl_size (f : Fl) : f.cells.size = 46 := rfl
set_option maxRecDepth 100000 in
@[go_sem] theorem fl_one (f : Fl) : f.cells.all (·.oneCell') = true := by simp [Fl.cells, Value.oneCell']
def Fl.zero : Fl := ⟨[], false, 0, 0, 0, 0⟩
section
variable {ops : Array Oper} {rest : List Oper} {o : Oper} {a : Act} {w : World} {Q : Exit → Act → World → Prop}
end
end Go.Proofs.YtkjecjehphgpjaaGreat.W

/- Layer 14's own code, walked: how many samples there are; which of two delays is less. -/
namespace Go.Proofs.YtkjecjehphgpjaaGreat.W
open Go.RowKit Go.Sort
set_option linter.unusedVariables false
set_option linter.unusedSimpArgs false
set_option maxHeartbeats 1600000 in
theorem fcmp_any (a b : Int) (w : World) : Calls Tryz.prog 34 #[.int .i64 a, .int .i64 b] w fun e w' => e = .returned (.int .i64 (cmp3 a b)) ∧ w = w' := by
  unfold cmp3
  rcases Int.lt_trichotomy a b with h | rfl | h
  · have h2 : ¬ b < a := by omega
    rw [if_pos h]
    go_enter Tryz.func34, Tryz.ntmps34
    go_wp2
    go_ret
    exact ⟨rfl, rfl⟩
  · rw [if_neg (by omega), if_neg (by omega)]
    go_enter Tryz.func34, Tryz.ntmps34
    go_wp2
    go_ret
    exact ⟨rfl, rfl⟩
  · have h2 : ¬ a < b := by omega
    rw [if_neg h2, if_pos h]
    go_enter Tryz.func34, Tryz.ntmps34
    go_wp2
    go_ret
    exact ⟨rfl, rfl⟩
end Go.Proofs.YtkjecjehphgpjaaGreat.W

/- The shelf's contract of slices (a sort's), laid at this seat's numbers (written by wip/shelf-lay.sh, wip/shelf-plain.py: anew for each seat). -/
namespace Go.Proofs.YtkjecjehphgpjaaGreat.W
open Go.Shelf
def insIt_ren : Go.Shelf.Ren := ⟨fun | 20 => 58 | n => n, fun | 24 => 3 | 22 => 47 | 3 => 3 | 25 => 63 | 4 => 4 | 0 => 0 | n => n, fun | n => n⟩
theorem insIt : Go.Proofs.SlLaysF.n20 Tryz.prog insIt_ren :=
  { mixed := by kernel_rfl,
    f20 := ⟨Tryz.f58.name, by decide, Tryz.func58.trans (congrArg some (by kernel_rfl))⟩,
    t0 := Tryz.underlying0,
    a0 := Tryz.isAgg0,
    z0 := Tryz.sizeOf0,
    v0 := Tryz.zeroValue0,
    t3 := Tryz.underlying3,
    a3 := Tryz.isAgg3,
    z3 := Tryz.sizeOf3,
    v3 := Tryz.zeroValue3,
    t4 := Tryz.underlying4,
    a4 := Tryz.isAgg4,
    z4 := Tryz.sizeOf4,
    v4 := Tryz.zeroValue4,
    t22 := Tryz.underlying47,
    a22 := Tryz.isAgg47,
    z22 := Tryz.sizeOf47,
    v22 := Tryz.zeroValue47,
    a24 := Tryz.isAgg3,
    z24 := Tryz.sizeOf3,
    t25 := Tryz.underlying63,
    a25 := Tryz.isAgg63,
    z25 := Tryz.sizeOf63,
    v25 := Tryz.zeroValue63 }
end Go.Proofs.YtkjecjehphgpjaaGreat.W

