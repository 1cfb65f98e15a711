/-
  ReadOk: the law, the model and the program brought together.
-/
import Derived.Test.YtifgcnicojpabaaLawReadOk
import Derived.Test.YtifgcnicojpabaaLetS1
import Derived.Test.YtifgcnicojpabaaLetI1
namespace Go.Proofs.Ytifgcnicojpabaa
set_option maxRecDepth 100000
open Go.RowKit

theorem zReadOk_here : True := trivial

end Go.Proofs.Ytifgcnicojpabaa
