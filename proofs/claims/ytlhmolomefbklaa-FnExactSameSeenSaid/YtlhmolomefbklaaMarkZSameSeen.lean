/-
  SameSeen: the law, the model and the program brought together.
-/
import Derived.Test.YtlhmolomefbklaaLawSameSeen
import Derived.Test.YtlhmolomefbklaaMarkSC
import Derived.Test.YtlhmolomefbklaaMarkIC
namespace Go.Proofs.Ytlhmolomefbklaa
set_option maxRecDepth 100000
open Go.RowKit

theorem zSameSeen_here : True := trivial

end Go.Proofs.Ytlhmolomefbklaa
