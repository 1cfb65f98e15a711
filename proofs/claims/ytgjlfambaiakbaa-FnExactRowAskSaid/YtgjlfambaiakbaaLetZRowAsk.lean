/-
  RowAsk: the law, the model and the program brought together.
-/
import Derived.Test.YtgjlfambaiakbaaLawRowAsk
import Derived.Test.YtgjlfambaiakbaaLetS5
import Derived.Test.YtgjlfambaiakbaaLetI7Ask
namespace Go.Proofs.Ytgjlfambaiakbaa
set_option maxRecDepth 100000
open Go.RowKit

theorem zRowAsk_here : True := trivial

end Go.Proofs.Ytgjlfambaiakbaa
