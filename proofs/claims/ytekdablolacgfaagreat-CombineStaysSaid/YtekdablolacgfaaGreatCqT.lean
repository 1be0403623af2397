/- Layer 18's laws: what is told together, by the document. -/
import Derived.Test.YtekdablolacgfaaGreatCqS
import Derived.Test.YtekdablolacgfaaGreatRtB
import Derived.Test.YtekdablolacgfaaGreatFixB
import Derived.Test.YtekdablolacgfaaGreatFixC
import Derived.Test.YtekdablolacgfaaGreatRows
import Derived.Test.YtekdablolacgfaaGreatFdefs
import Derived.Test.YtekdablolacgfaaGreatWideC
import Derived.Test.YtekdablolacgfaaGreatApA
import Derived.Test.YtekdablolacgfaaGreatPlA
import Derived.Test.YtekdablolacgfaaGreatQtB
import Derived.BigQuiet
import Derived.Deep.QuietTactic
import Derived.Lib.QuietBelow
import Derived.Lib.Hide
import Derived.WalkKit
import Derived.WalkSpells
import Derived.WalkLawsBesides
import Derived.Handy
namespace Go.Proofs.YtekdablolacgfaaGreat.W
open Go.RowKit Go.Sort
set_option linter.unusedVariables false
set_option linter.unusedSimpArgs false
theorem below_setRow18 {B g : Nat} {w0 w : World} (hb : Below B w0 w) (hBg : B ≤ g) (cs : Array Value) : Below B w0 (w.setRow g cs) :=
  hb.trans ⟨rfl, rfl, rfl, by simp [World.setRow], fun k hk => setRow_other w g k cs (by omega)⟩
/-- Goals that agree, walked once: each is 'key.out'. -/
theorem merge18 {T Q : Prop} (main : Hid T → Q) (pf : T) : Q := main (Lib.hid pf)
theorem results_cell_tmp18 {fn : Func} {t u : Tmp} {T : TypeId} (h : fn.results = #[.cell t T, .tmp u]) (tmps : Array Value) {P : Program} {w : World} {ad : Addr} {x y : Value} (h1 : tmps.getD t undef = .pointer (some ad)) (h2 : tmps.getD u undef = y) (hl : (loadVar T ad).run P w = .ok x w) : (results fn tmps).run P w = .ok (.tuple #[x, y]) w := by
  simp only [Array.getD_eq_getD_getElem?] at h1 h2
  simp [results, h, h1, h2, hl, asAddr]
section
variable {ops : Array Oper} {Q : Exit → Act → World → Prop} {rest : List Oper} {o : Oper} {a : Act} {w : World}
end
end Go.Proofs.YtekdablolacgfaaGreat.W
