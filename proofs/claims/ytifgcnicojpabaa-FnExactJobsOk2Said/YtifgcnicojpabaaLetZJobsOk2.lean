/-
  JobsOk2: the law, the model and the program brought together.
-/
import Derived.Test.YtifgcnicojpabaaLawJobsOk2
import Derived.Test.YtifgcnicojpabaaLetSJ
import Derived.Test.YtifgcnicojpabaaLetIJ
namespace Go.Proofs.Ytifgcnicojpabaa
set_option maxRecDepth 100000
open Go.RowKit

theorem zJobsOk2_here : True := trivial

end Go.Proofs.Ytifgcnicojpabaa
