/-
  The model's copy of a row into new memory.
-/
import Derived.Test.YtepnghjmpbfmcaaKA
namespace Go.Proofs.Ytepnghjmpbfmcaa
set_option maxRecDepth 100000
open Go.RowKit

end Go.Proofs.Ytepnghjmpbfmcaa
