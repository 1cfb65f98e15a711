/-
  Chapter 5: slices of messages and networks copied, in the model (by program, wip/gen/gennetf.py).
-/
import Derived.Test.YthcagdcbifdfeaaNetD1
import Derived.RegionTactic
import Derived.BigQuiet
namespace Go.Proofs.Ythcagdcbifdfeaa
set_option maxRecDepth 100000
open Go.RowKit

end Go.Proofs.Ythcagdcbifdfeaa
