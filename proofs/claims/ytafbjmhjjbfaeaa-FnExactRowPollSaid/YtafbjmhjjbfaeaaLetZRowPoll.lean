/-
  RowPoll: the law, the model and the program brought together.
-/
import Derived.Test.YtafbjmhjjbfaeaaLawRowPoll
import Derived.Test.YtafbjmhjjbfaeaaLetS4
import Derived.Test.YtafbjmhjjbfaeaaLetI7Poll
namespace Go.Proofs.Ytafbjmhjjbfaeaa
set_option maxRecDepth 100000
open Go.RowKit

theorem zRowPoll_here : True := trivial

end Go.Proofs.Ytafbjmhjjbfaeaa
