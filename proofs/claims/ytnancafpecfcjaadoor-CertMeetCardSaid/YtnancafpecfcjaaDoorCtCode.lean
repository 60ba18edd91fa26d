/-
  What cert's functions tell.
-/
import Derived.Test.YtnancafpecfcjaaDoorCtCodeMake
import Derived.Test.YtnancafpecfcjaaDoorCtCodeRight
import Derived.Test.YtnancafpecfcjaaDoorCtCodeSame
import Derived.Test.YtnancafpecfcjaaDoorCtCodePut
import Derived.Test.YtnancafpecfcjaaDoorCtCodeRead
import Derived.Test.YtnancafpecfcjaaDoorCtCodeSigners
namespace Go.Proofs.YtnancafpecfcjaaDoor
set_option maxRecDepth 20000
open Go.RowKit
end Go.Proofs.YtnancafpecfcjaaDoor
