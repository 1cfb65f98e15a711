/-
  EntryOk: the law, the model and the program brought together.
-/
import Derived.Test.YtjgoaaabfhjijaaLawEntryOk
import Derived.Test.YtjgoaaabfhjijaaEntS2
import Derived.Test.YtjgoaaabfhjijaaEntI3
import Derived.RegionTactic
namespace Go.Proofs.Ytjgoaaabfhjijaa
set_option maxRecDepth 100000
open Go.RowKit

theorem zEntryOk_here : True := trivial

end Go.Proofs.Ytjgoaaabfhjijaa
