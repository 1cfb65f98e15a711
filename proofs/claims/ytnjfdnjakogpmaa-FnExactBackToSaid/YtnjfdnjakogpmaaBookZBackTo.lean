/-
  BackTo: the law, the model and the program brought together.
-/
import Derived.Test.YtnjfdnjakogpmaaLawBackTo
import Derived.Test.YtnjfdnjakogpmaaBookSC
import Derived.Test.YtnjfdnjakogpmaaBookIC
namespace Go.Proofs.Ytnjfdnjakogpmaa
set_option maxRecDepth 100000
open Go.RowKit

theorem zBackTo_here : True := trivial

end Go.Proofs.Ytnjfdnjakogpmaa
