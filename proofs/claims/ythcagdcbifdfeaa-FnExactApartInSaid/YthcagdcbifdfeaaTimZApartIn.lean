/-
  ApartIn: the law, the model and the program brought together.
-/
import Derived.Test.YthcagdcbifdfeaaLawApartIn
import Derived.Test.YthcagdcbifdfeaaTimC2
namespace Go.Proofs.Ythcagdcbifdfeaa
set_option maxRecDepth 100000
open Go.RowKit

theorem zApartIn_here : True := trivial

end Go.Proofs.Ythcagdcbifdfeaa
