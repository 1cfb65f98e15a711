/-
  TimerSet: the law, the model and the program brought together.
-/
import Derived.Test.YthekcaahkokjfaaLawTimerSet
import Derived.Test.YthekcaahkokjfaaTimC13
namespace Go.Proofs.Ythekcaahkokjfaa
set_option maxRecDepth 100000
open Go.RowKit

theorem zTimerSet_here : True := trivial

end Go.Proofs.Ythekcaahkokjfaa
