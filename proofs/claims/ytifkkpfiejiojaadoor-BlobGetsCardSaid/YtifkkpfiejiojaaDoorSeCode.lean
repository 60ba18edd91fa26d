/-
  blob's functions: what they tell.
-/
import Derived.Test.YtifkkpfiejiojaaDoorSeCodeGet
import Derived.Test.YtifkkpfiejiojaaDoorSeCodePut
namespace Go.Proofs.YtifkkpfiejiojaaDoor
end Go.Proofs.YtifkkpfiejiojaaDoor
