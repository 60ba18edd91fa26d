/-
  What tx's functions tell: txLess_ok, txPut_ok, txRead_ok.
-/
import Derived.Test.YtefngncieagobaaTxCodeRead
