/-
  All that stands below a trusted part's steps: imports alone.
-/
import Derived.Test.YtghophbabbaleaaGreatDoorCsX
namespace Go.Proofs.YtghophbabbaleaaGreatDoor
end Go.Proofs.YtghophbabbaleaaGreatDoor
