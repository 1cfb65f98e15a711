/-
  RowFeed: the law, the model and the program brought together.
-/
import Derived.Test.YtafbjmhjjbfaeaaLawRowFeed
import Derived.Test.YtafbjmhjjbfaeaaLetSH
import Derived.Test.YtafbjmhjjbfaeaaLetI7Feed
namespace Go.Proofs.Ytafbjmhjjbfaeaa
set_option maxRecDepth 100000
open Go.RowKit

theorem zRowFeed_here : True := trivial

end Go.Proofs.Ytafbjmhjjbfaeaa
