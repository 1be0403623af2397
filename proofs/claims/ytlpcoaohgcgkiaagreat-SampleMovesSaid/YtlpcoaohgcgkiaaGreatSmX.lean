/- Layer 13's code by contracts: they stand in SmD (sage_any smove_any sspan_any) and SmE (smake_any). -/
import Derived.Test.YtlpcoaohgcgkiaaGreatSmE
import Derived.Test.YtlpcoaohgcgkiaaGreatStX
import Derived.Test.YtlpcoaohgcgkiaaGreatChecked
namespace Go.Proofs.YtlpcoaohgcgkiaaGreat.W
end Go.Proofs.YtlpcoaohgcgkiaaGreat.W
