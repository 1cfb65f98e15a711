/-
  OpRow: the law, the model and the program brought together.
-/
import Derived.Test.YtjgoaaabfhjijaaLawOpRow
import Derived.Test.YtjgoaaabfhjijaaEntS2
import Derived.Test.YtjgoaaabfhjijaaEntI2
import Derived.RegionTactic
namespace Go.Proofs.Ytjgoaaabfhjijaa
set_option maxRecDepth 100000
open Go.RowKit

theorem zOpRow_here : True := trivial

end Go.Proofs.Ytjgoaaabfhjijaa
