/- Layer 18's code by contracts: they stand in CqD (cwt_any), CqF (cmean_any cjit_any), CqG (cchoose_any), and CqI (ccomb_any, which the laws that want it import). -/
import Derived.Test.YtekdablolacgfaaCqF
import Derived.Test.YtekdablolacgfaaCqG
namespace Go.Proofs.Ytekdablolacgfaa.W
end Go.Proofs.Ytekdablolacgfaa.W
