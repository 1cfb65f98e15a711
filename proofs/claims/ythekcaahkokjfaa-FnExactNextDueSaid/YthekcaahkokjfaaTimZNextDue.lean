/-
  NextDue: the law, the model and the program brought together.
-/
import Derived.Test.YthekcaahkokjfaaLawNextDue
import Derived.Test.YthekcaahkokjfaaTimC8
namespace Go.Proofs.Ythekcaahkokjfaa
set_option maxRecDepth 100000
open Go.RowKit

theorem zNextDue_here : True := trivial

end Go.Proofs.Ythekcaahkokjfaa
