/-
  What att's functions tell.
-/
import Derived.Test.YtmhchihcgliinaaDoorAtOk
import Derived.Test.YtmhchihcgliinaaDoorBs7
import Derived.Test.YtmhchihcgliinaaDoorAtCodeSign
import Derived.Test.YtmhchihcgliinaaDoorAtCodeRight
import Derived.Test.YtmhchihcgliinaaDoorAtCodePut
import Derived.Test.YtmhchihcgliinaaDoorAtCodeRead
import Derived.Test.YtmhchihcgliinaaDoorAtCodeAlike
namespace Go.Proofs.YtmhchihcgliinaaDoor
end Go.Proofs.YtmhchihcgliinaaDoor
