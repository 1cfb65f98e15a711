/-
  FnBookBack: the law and the program brought together.
-/
import Derived.Test.YtjbhldfkkmkilaaLawBookBack
import Derived.Test.YtjbhldfkkmkilaaBookIC
namespace Go.Proofs.Ytjbhldfkkmkilaa
set_option maxRecDepth 100000
open Go.RowKit

theorem zBack_here : True := trivial

end Go.Proofs.Ytjbhldfkkmkilaa
