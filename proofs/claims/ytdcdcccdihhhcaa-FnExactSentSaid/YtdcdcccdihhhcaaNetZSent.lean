/-
  Sent: the law, the model and the program brought together.
-/
import Derived.Test.YtdcdcccdihhhcaaLawSent
import Derived.Test.YtdcdcccdihhhcaaNetJ2
namespace Go.Proofs.Ytdcdcccdihhhcaa
set_option maxRecDepth 100000
open Go.RowKit

theorem zSent_here : True := trivial

end Go.Proofs.Ytdcdcccdihhhcaa
