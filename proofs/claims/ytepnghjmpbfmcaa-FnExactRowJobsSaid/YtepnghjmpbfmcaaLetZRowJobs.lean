/-
  RowJobs: the law, the model and the program brought together.
-/
import Derived.Test.YtepnghjmpbfmcaaLawRowJobs
import Derived.Test.YtepnghjmpbfmcaaLetSL
import Derived.Test.YtepnghjmpbfmcaaLetI7Jobs
namespace Go.Proofs.Ytepnghjmpbfmcaa
set_option maxRecDepth 100000
open Go.RowKit

theorem zRowJobs_here : True := trivial

end Go.Proofs.Ytepnghjmpbfmcaa
