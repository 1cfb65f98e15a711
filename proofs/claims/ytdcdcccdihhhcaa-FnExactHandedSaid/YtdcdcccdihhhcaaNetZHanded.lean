/-
  Handed: the law, the model and the program brought together.
-/
import Derived.Test.YtdcdcccdihhhcaaLawHanded
import Derived.Test.YtdcdcccdihhhcaaNetH2
namespace Go.Proofs.Ytdcdcccdihhhcaa
set_option maxRecDepth 100000
open Go.RowKit

theorem zHanded_here : True := trivial

end Go.Proofs.Ytdcdcccdihhhcaa
