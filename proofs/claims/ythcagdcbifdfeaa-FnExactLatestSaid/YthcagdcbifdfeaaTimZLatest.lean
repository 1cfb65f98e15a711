/-
  Latest: the law, the model and the program brought together.
-/
import Derived.Test.YthcagdcbifdfeaaLawLatest
import Derived.Test.YthcagdcbifdfeaaTimC2
namespace Go.Proofs.Ythcagdcbifdfeaa
set_option maxRecDepth 100000
open Go.RowKit

theorem zLatest_here : True := trivial

end Go.Proofs.Ythcagdcbifdfeaa
