/-
  LawFresh: the law and the program brought together.
-/
import Derived.Test.YtpgbnkhanhfkeaaLawFresh
import Derived.Test.YtpgbnkhanhfkeaaMarkIC
namespace Go.Proofs.Ytpgbnkhanhfkeaa
set_option maxRecDepth 100000
open Go.RowKit

theorem zMarkFresh_here : True := trivial

end Go.Proofs.Ytpgbnkhanhfkeaa
