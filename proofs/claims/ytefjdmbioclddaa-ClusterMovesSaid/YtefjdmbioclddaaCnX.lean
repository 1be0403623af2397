/- Layer 17's code by contracts: how far apart, the worst one, who is kept, how far they spread. -/
import Derived.Test.YtefjdmbioclddaaCnF
import Derived.Test.YtefjdmbioclddaaCnG
import Derived.Test.YtefjdmbioclddaaCnH
import Derived.Test.YtefjdmbioclddaaCnJ
