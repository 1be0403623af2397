/- Layer 6's own code: its four contracts (Walk, Join, Kiss, Name), walked in the texts that this one imports. -/
import Derived.Test.YtdcpohbgbnbgmaaEeF
import Derived.Test.YtdcpohbgbnbgmaaEeH
