/-
  CutOff: the law, the model and the program brought together.
-/
import Derived.Test.YtdcdcccdihhhcaaLawCutOff
import Derived.Test.YtdcdcccdihhhcaaNetG2
namespace Go.Proofs.Ytdcdcccdihhhcaa
set_option maxRecDepth 100000
open Go.RowKit

theorem zCutOff_here : True := trivial

end Go.Proofs.Ytdcdcccdihhhcaa
