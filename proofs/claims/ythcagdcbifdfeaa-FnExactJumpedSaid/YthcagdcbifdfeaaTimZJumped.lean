/-
  Jumped: the law, the model and the program brought together.
-/
import Derived.Test.YthcagdcbifdfeaaLawJumped
import Derived.Test.YthcagdcbifdfeaaTimC3
namespace Go.Proofs.Ythcagdcbifdfeaa
set_option maxRecDepth 100000
open Go.RowKit

theorem zJumped_here : True := trivial

end Go.Proofs.Ythcagdcbifdfeaa
