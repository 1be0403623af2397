/- Layer 19's code by contracts, as the laws ask for them. -/
import Derived.Test.YtlidlmgmijndcaaGreatLpK
namespace Go.Proofs.YtlidlmgmijndcaaGreat.W
end Go.Proofs.YtlidlmgmijndcaaGreat.W
