/-
  RowValue: the law, the model and the program brought together.
-/
import Derived.Test.YtgjlfambaiakbaaLawRowValue
import Derived.Test.YtgjlfambaiakbaaLetS4
import Derived.Test.YtgjlfambaiakbaaLetI7Value
namespace Go.Proofs.Ytgjlfambaiakbaa
set_option maxRecDepth 100000
open Go.RowKit

theorem zRowValue_here : True := trivial

end Go.Proofs.Ytgjlfambaiakbaa
