/-
  SeenOver: the law, the model and the program brought together.
-/
import Derived.Test.YtlhmolomefbklaaLawSeenOver
import Derived.Test.YtlhmolomefbklaaMarkSC
import Derived.Test.YtlhmolomefbklaaMarkIC
namespace Go.Proofs.Ytlhmolomefbklaa
set_option maxRecDepth 100000
open Go.RowKit

theorem zSeenOver_here : True := trivial

end Go.Proofs.Ytlhmolomefbklaa
