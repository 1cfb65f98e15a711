/-
  PollRow: the law, the model and the program brought together.
-/
import Derived.Test.YtafbjmhjjbfaeaaLawPollRow
import Derived.Test.YtafbjmhjjbfaeaaLetS2
import Derived.Test.YtafbjmhjjbfaeaaLetI3
namespace Go.Proofs.Ytafbjmhjjbfaeaa
set_option maxRecDepth 100000
open Go.RowKit

theorem zPollRow_here : True := trivial

end Go.Proofs.Ytafbjmhjjbfaeaa
