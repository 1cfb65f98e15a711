/-
  DueIn: the law, the model and the program brought together.
-/
import Derived.Test.YthekcaahkokjfaaLawDueIn
import Derived.Test.YthekcaahkokjfaaTimC8
namespace Go.Proofs.Ythekcaahkokjfaa
set_option maxRecDepth 100000
open Go.RowKit

theorem zDueIn_here : True := trivial

end Go.Proofs.Ythekcaahkokjfaa
