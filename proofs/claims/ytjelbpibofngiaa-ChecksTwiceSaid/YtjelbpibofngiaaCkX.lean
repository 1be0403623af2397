/- Layer 12's code by contracts (jtake_any, jjudge_any, jcause_any, jfar_any). -/
import Derived.Test.YtjelbpibofngiaaCkE
