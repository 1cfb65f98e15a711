/-
  MsgOk: the law, the model and the program brought together.
-/
import Derived.Test.YtdcdcccdihhhcaaLawMsgOk
import Derived.Test.YtdcdcccdihhhcaaNetZ1
namespace Go.Proofs.Ytdcdcccdihhhcaa
set_option maxRecDepth 100000
open Go.RowKit

theorem zMsgOk_here : True := trivial

end Go.Proofs.Ytdcdcccdihhhcaa
