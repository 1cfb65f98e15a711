/-
  FeedRow: the law, the model and the program brought together.
-/
import Derived.Test.YtafbjmhjjbfaeaaLawFeedRow
import Derived.Test.YtafbjmhjjbfaeaaLetSG
import Derived.Test.YtafbjmhjjbfaeaaLetIG
namespace Go.Proofs.Ytafbjmhjjbfaeaa
set_option maxRecDepth 100000
open Go.RowKit

theorem zFeedRow_here : True := trivial

end Go.Proofs.Ytafbjmhjjbfaeaa
