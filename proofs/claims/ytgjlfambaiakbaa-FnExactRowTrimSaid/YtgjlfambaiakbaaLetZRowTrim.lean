/-
  RowTrim: the law, the model and the program brought together.
-/
import Derived.Test.YtgjlfambaiakbaaLawRowTrim
import Derived.Test.YtgjlfambaiakbaaLetS4
import Derived.Test.YtgjlfambaiakbaaLetI7Trim
namespace Go.Proofs.Ytgjlfambaiakbaa
set_option maxRecDepth 100000
open Go.RowKit

theorem zRowTrim_here : True := trivial

end Go.Proofs.Ytgjlfambaiakbaa
