/-
  Ticked: the law, the model and the program brought together.
-/
import Derived.Test.YthcagdcbifdfeaaLawTicked
import Derived.Test.YthcagdcbifdfeaaTimC3
namespace Go.Proofs.Ythcagdcbifdfeaa
set_option maxRecDepth 100000
open Go.RowKit

theorem zTicked_here : True := trivial

end Go.Proofs.Ythcagdcbifdfeaa
