/-
  PassesIn: the law, the model and the program brought together.
-/
import Derived.Test.YtdcdcccdihhhcaaLawPassesIn
import Derived.Test.YtdcdcccdihhhcaaNetC5
namespace Go.Proofs.Ytdcdcccdihhhcaa
set_option maxRecDepth 100000
open Go.RowKit

theorem zPassesIn_here : True := trivial

end Go.Proofs.Ytdcdcccdihhhcaa
