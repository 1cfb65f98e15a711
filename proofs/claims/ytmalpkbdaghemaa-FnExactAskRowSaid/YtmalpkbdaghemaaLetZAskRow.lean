/-
  AskRow: the law, the model and the program brought together.
-/
import Derived.Test.YtmalpkbdaghemaaLawAskRow
import Derived.Test.YtmalpkbdaghemaaLetS3
import Derived.Test.YtmalpkbdaghemaaLetI3
namespace Go.Proofs.Ytmalpkbdaghemaa
set_option maxRecDepth 100000
open Go.RowKit

theorem zAskRow_here : True := trivial

end Go.Proofs.Ytmalpkbdaghemaa
