/-
  SameNet: the law, the model and the program brought together.
-/
import Derived.Test.YtdcdcccdihhhcaaLawSameNet
import Derived.Test.YtdcdcccdihhhcaaNetC6
namespace Go.Proofs.Ytdcdcccdihhhcaa
set_option maxRecDepth 100000
open Go.RowKit

theorem zSameNet_here : True := trivial

end Go.Proofs.Ytdcdcccdihhhcaa
