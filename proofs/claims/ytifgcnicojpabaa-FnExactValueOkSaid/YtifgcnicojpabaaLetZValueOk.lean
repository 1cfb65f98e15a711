/-
  ValueOk: the law, the model and the program brought together.
-/
import Derived.Test.YtifgcnicojpabaaLawValueOk
import Derived.Test.YtifgcnicojpabaaLetS1
import Derived.Test.YtifgcnicojpabaaLetI1
namespace Go.Proofs.Ytifgcnicojpabaa
set_option maxRecDepth 100000
open Go.RowKit

theorem zValueOk_here : True := trivial

end Go.Proofs.Ytifgcnicojpabaa
