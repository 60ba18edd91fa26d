/-
  All that stands below a wal's texts: imports alone.
-/
import Derived.Test.YtfpgglclpkcdhaaBw6
namespace Go.Proofs.Ytfpgglclpkcdhaa
end Go.Proofs.Ytfpgglclpkcdhaa
