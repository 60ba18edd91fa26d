/-
  All that stands below a gatherer's texts: imports alone.
-/
import Derived.Test.YtpnejoglkmfleaaDoorBsX
namespace Go.Proofs.YtpnejoglkmfleaaDoor
end Go.Proofs.YtpnejoglkmfleaaDoor
