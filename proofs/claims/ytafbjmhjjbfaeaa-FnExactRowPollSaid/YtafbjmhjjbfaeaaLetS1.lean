/-
  Chapter 11: validity of messages, of the model (by program, wip/gen/genlets1.py).
-/
import Derived.Test.YtafbjmhjjbfaeaaLetN
import Derived.Test.YtafbjmhjjbfaeaaEntS1
import Derived.Test.YtafbjmhjjbfaeaaEntS2
import Derived.RegionTactic
import Derived.BigQuiet
namespace Go.Proofs.Ytafbjmhjjbfaeaa
set_option maxRecDepth 100000
open Go.RowKit

end Go.Proofs.Ytafbjmhjjbfaeaa
