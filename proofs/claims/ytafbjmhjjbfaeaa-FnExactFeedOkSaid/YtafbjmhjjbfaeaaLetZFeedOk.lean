/-
  FeedOk: the law, the model and the program brought together.
-/
import Derived.Test.YtafbjmhjjbfaeaaLawFeedOk
import Derived.Test.YtafbjmhjjbfaeaaLetSF
import Derived.Test.YtafbjmhjjbfaeaaLetIF
namespace Go.Proofs.Ytafbjmhjjbfaeaa
set_option maxRecDepth 100000
open Go.RowKit

theorem zFeedOk_here : True := trivial

end Go.Proofs.Ytafbjmhjjbfaeaa
