/-
  Healed: the law, the model and the program brought together.
-/
import Derived.Test.YtdcdcccdihhhcaaLawHealed
import Derived.Test.YtdcdcccdihhhcaaNetH4
namespace Go.Proofs.Ytdcdcccdihhhcaa
set_option maxRecDepth 100000
open Go.RowKit

theorem zHealed_here : True := trivial

end Go.Proofs.Ytdcdcccdihhhcaa
