/-
  LettersTo: the law, the model and the program brought together.
-/
import Derived.Test.YtdcdcccdihhhcaaLawLettersTo
import Derived.Test.YtdcdcccdihhhcaaNetC7
namespace Go.Proofs.Ytdcdcccdihhhcaa
set_option maxRecDepth 100000
open Go.RowKit

theorem zLettersTo_here : True := trivial

end Go.Proofs.Ytdcdcccdihhhcaa
