/- Layer 16's code: what the laws ask of it (mchk_any, mdep_any, mmeet_any, mmaj_any, msel_any), walked in the texts named here. -/
import Derived.Test.YtkbjmcgnjhpkiaaMtA
import Derived.Test.YtkbjmcgnjhpkiaaPlA
import Derived.Test.YtkbjmcgnjhpkiaaMwJ
namespace Go.Proofs.Ytkbjmcgnjhpkiaa.W
end Go.Proofs.Ytkbjmcgnjhpkiaa.W
