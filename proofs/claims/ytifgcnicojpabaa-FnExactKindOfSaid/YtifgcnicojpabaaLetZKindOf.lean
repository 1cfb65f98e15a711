/-
  KindOf: the law, the model and the program brought together.
-/
import Derived.Test.YtifgcnicojpabaaLawKindOf
import Derived.Test.YtifgcnicojpabaaLetK
namespace Go.Proofs.Ytifgcnicojpabaa
set_option maxRecDepth 100000
open Go.RowKit

theorem zKindOf_here : True := trivial

end Go.Proofs.Ytifgcnicojpabaa
