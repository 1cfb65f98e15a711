/-
  NetOk: the law, the model and the program brought together.
-/
import Derived.Test.YtdcdcccdihhhcaaLawNetOk
import Derived.Test.YtdcdcccdihhhcaaNetZ1
namespace Go.Proofs.Ytdcdcccdihhhcaa
set_option maxRecDepth 100000
open Go.RowKit

theorem zNetOk_here : True := trivial

end Go.Proofs.Ytdcdcccdihhhcaa
