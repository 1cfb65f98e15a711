/-
  TimersOk: the law, the model and the program brought together.
-/
import Derived.Test.YthcagdcbifdfeaaLawTimersOk
import Derived.Test.YthcagdcbifdfeaaTimC8
namespace Go.Proofs.Ythcagdcbifdfeaa
set_option maxRecDepth 100000
open Go.RowKit

theorem zTimersOk_here : True := trivial

end Go.Proofs.Ythcagdcbifdfeaa
