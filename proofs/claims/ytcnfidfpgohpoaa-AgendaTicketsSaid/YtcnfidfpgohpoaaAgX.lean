/- Layer 8's agenda by contracts: AgIn F w p a; gnew_any gput_any gcan_any gmov_any gdbl_any gtak_any gnext_any glist_any (AgM, AgN, AgO). -/
import Derived.Test.YtcnfidfpgohpoaaAgO
import Derived.Test.YtcnfidfpgohpoaaAgH
