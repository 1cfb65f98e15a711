/-
  RowRead: the law, the model and the program brought together.
-/
import Derived.Test.YtgjlfambaiakbaaLawRowRead
import Derived.Test.YtgjlfambaiakbaaLetS4
import Derived.Test.YtgjlfambaiakbaaLetI7Read
namespace Go.Proofs.Ytgjlfambaiakbaa
set_option maxRecDepth 100000
open Go.RowKit

theorem zRowRead_here : True := trivial

end Go.Proofs.Ytgjlfambaiakbaa
