/-
  RowAck: the law, the model and the program brought together.
-/
import Derived.Test.YtgjlfambaiakbaaLawRowAck
import Derived.Test.YtgjlfambaiakbaaLetS4
import Derived.Test.YtgjlfambaiakbaaLetI7Ack
namespace Go.Proofs.Ytgjlfambaiakbaa
set_option maxRecDepth 100000
open Go.RowKit

theorem zRowAck_here : True := trivial

end Go.Proofs.Ytgjlfambaiakbaa
