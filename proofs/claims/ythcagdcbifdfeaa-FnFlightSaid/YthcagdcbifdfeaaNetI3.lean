/-
  links (by program, wip/gen/gennetg.py).
-/
import Derived.Test.YthcagdcbifdfeaaNetI1
import Derived.Test.YthcagdcbifdfeaaCutE
import Derived.Test.YthcagdcbifdfeaaNetE1
import Derived.RegionTactic
import Derived.BigQuiet
namespace Go.Proofs.Ythcagdcbifdfeaa
set_option maxRecDepth 100000
open Go.RowKit

end Go.Proofs.Ythcagdcbifdfeaa
