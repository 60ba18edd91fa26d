/-
  What accu's functions tell.
-/
import Derived.Test.YthgdgkdnidjdgaaDoorAcCodeMake
import Derived.Test.YthgdgkdnidjdgaaDoorAcCodeRight
import Derived.Test.YthgdgkdnidjdgaaDoorAcCodeSame
import Derived.Test.YthgdgkdnidjdgaaDoorAcCodePut
import Derived.Test.YthgdgkdnidjdgaaDoorAcCodeRead
namespace Go.Proofs.YthgdgkdnidjdgaaDoor
set_option maxRecDepth 20000
open Go.RowKit
end Go.Proofs.YthgdgkdnidjdgaaDoor
