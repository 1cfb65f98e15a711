/-
  EqualIn: the law's walk, the model's and the program's brought together.
-/
import Derived.Test.YtejcpoidoekleaaLawEqualIn
import Derived.Test.YtejcpoidoekleaaTwoE
import Derived.Test.YtejcpoidoekleaaTwoI4
namespace Go.Proofs.Ytejcpoidoekleaa
set_option maxRecDepth 100000
open Go.RowKit

theorem zeroT_partsEqualIn : zeroT.a = zeroD ∧ zeroT.b = zeroD := ⟨rfl, rfl⟩

end Go.Proofs.Ytejcpoidoekleaa
