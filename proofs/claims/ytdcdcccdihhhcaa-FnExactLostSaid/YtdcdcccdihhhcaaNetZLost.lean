/-
  Lost: the law, the model and the program brought together.
-/
import Derived.Test.YtdcdcccdihhhcaaLawLost
import Derived.Test.YtdcdcccdihhhcaaNetI4
namespace Go.Proofs.Ytdcdcccdihhhcaa
set_option maxRecDepth 100000
open Go.RowKit

theorem zLost_here : True := trivial

end Go.Proofs.Ytdcdcccdihhhcaa
