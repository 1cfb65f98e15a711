/-
  LawSeenParts: the law and the program brought together.
-/
import Derived.Test.YtpgbnkhanhfkeaaLawSeenParts
import Derived.Test.YtpgbnkhanhfkeaaMarkIC
namespace Go.Proofs.Ytpgbnkhanhfkeaa
set_option maxRecDepth 100000
open Go.RowKit

theorem zMarkParts_here : True := trivial

end Go.Proofs.Ytpgbnkhanhfkeaa
