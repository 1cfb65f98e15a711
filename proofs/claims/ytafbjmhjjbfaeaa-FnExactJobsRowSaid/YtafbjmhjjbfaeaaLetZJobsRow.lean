/-
  JobsRow: the law, the model and the program brought together.
-/
import Derived.Test.YtafbjmhjjbfaeaaLawJobsRow
import Derived.Test.YtafbjmhjjbfaeaaLetSK
import Derived.Test.YtafbjmhjjbfaeaaLetIK
namespace Go.Proofs.Ytafbjmhjjbfaeaa
set_option maxRecDepth 100000
open Go.RowKit

theorem zJobsRow_here : True := trivial

end Go.Proofs.Ytafbjmhjjbfaeaa
