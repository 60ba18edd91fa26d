/-
  All that stands below a gatherer's texts: imports alone.
-/
import Derived.Test.YtpnejoglkmfleaaGreatDoorBsX
namespace Go.Proofs.YtpnejoglkmfleaaGreatDoor
end Go.Proofs.YtpnejoglkmfleaaGreatDoor
