/- Bytes and parts of a text, as the walks ask for them. -/
import Derived.Test.YtcnfidfpgohpoaaHdB
import Derived.Test.YtcnfidfpgohpoaaHdR
namespace Go.Proofs.Ytcnfidfpgohpoaa.W
open Go.RowKit
set_option linter.unusedVariables false
set_option linter.unusedSimpArgs false
attribute [go_sem] bs_at bs_cut cut_len cut_end bs_list
end Go.Proofs.Ytcnfidfpgohpoaa.W
