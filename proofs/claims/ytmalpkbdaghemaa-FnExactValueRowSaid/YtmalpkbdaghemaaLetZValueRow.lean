/-
  ValueRow: the law, the model and the program brought together.
-/
import Derived.Test.YtmalpkbdaghemaaLawValueRow
import Derived.Test.YtmalpkbdaghemaaLetS2
import Derived.Test.YtmalpkbdaghemaaLetI3
namespace Go.Proofs.Ytmalpkbdaghemaa
set_option maxRecDepth 100000
open Go.RowKit

theorem zValueRow_here : True := trivial

end Go.Proofs.Ytmalpkbdaghemaa
