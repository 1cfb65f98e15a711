/-
  AckOf: the law, the model and the program brought together.
-/
import Derived.Test.YthjjdelpdiipdaaLawAckOf
import Derived.Test.YthjjdelpdiipdaaLogA
namespace Go.Proofs.Ythjjdelpdiipdaa
set_option maxRecDepth 100000
open Go.RowKit

theorem zAckOf_here : True := trivial

end Go.Proofs.Ythjjdelpdiipdaa
