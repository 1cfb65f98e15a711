/-
  RowFetch: the law, the model and the program brought together.
-/
import Derived.Test.YtgjlfambaiakbaaLawRowFetch
import Derived.Test.YtgjlfambaiakbaaLetS4
import Derived.Test.YtgjlfambaiakbaaLetI7Fetch
namespace Go.Proofs.Ytgjlfambaiakbaa
set_option maxRecDepth 100000
open Go.RowKit

theorem zRowFetch_here : True := trivial

end Go.Proofs.Ytgjlfambaiakbaa
