/-
  OpOk: the law, the model and the program brought together.
-/
import Derived.Test.YtjgoaaabfhjijaaLawOpOk
import Derived.Test.YtjgoaaabfhjijaaEntS1
import Derived.Test.YtjgoaaabfhjijaaEntI2
import Derived.RegionTactic
namespace Go.Proofs.Ytjgoaaabfhjijaa
set_option maxRecDepth 100000
open Go.RowKit

theorem zOpOk_here : True := trivial

end Go.Proofs.Ytjgoaaabfhjijaa
