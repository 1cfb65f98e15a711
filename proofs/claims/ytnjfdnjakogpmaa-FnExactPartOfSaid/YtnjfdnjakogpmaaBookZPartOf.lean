/-
  PartOf: the law, the model and the program brought together.
-/
import Derived.Test.YtnjfdnjakogpmaaLawPartOf
import Derived.Test.YtnjfdnjakogpmaaBookSC
import Derived.Test.YtnjfdnjakogpmaaBookIC
namespace Go.Proofs.Ytnjfdnjakogpmaa
set_option maxRecDepth 100000
open Go.RowKit

theorem zPartOf_here : True := trivial

end Go.Proofs.Ytnjfdnjakogpmaa
