/-
  Doubled: the law, the model and the program brought together.
-/
import Derived.Test.YtdcdcccdihhhcaaLawDoubled
import Derived.Test.YtdcdcccdihhhcaaNetJ3
namespace Go.Proofs.Ytdcdcccdihhhcaa
set_option maxRecDepth 100000
open Go.RowKit

theorem zDoubled_here : True := trivial

end Go.Proofs.Ytdcdcccdihhhcaa
