/-
  EntryRow: the law, the model and the program brought together.
-/
import Derived.Test.YtjgoaaabfhjijaaLawEntryRow
import Derived.Test.YtjgoaaabfhjijaaEntS6
import Derived.Test.YtjgoaaabfhjijaaEntI3
import Derived.RegionTactic
namespace Go.Proofs.Ytjgoaaabfhjijaa
set_option maxRecDepth 100000
open Go.RowKit

theorem zEntryRow_here : True := trivial

end Go.Proofs.Ytjgoaaabfhjijaa
