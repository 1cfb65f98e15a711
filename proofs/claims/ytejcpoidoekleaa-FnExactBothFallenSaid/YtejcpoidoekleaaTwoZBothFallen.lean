/-
  BothFallen: the law's walk, the model's and the program's brought together.
-/
import Derived.Test.YtejcpoidoekleaaLawBothFallen
import Derived.Test.YtejcpoidoekleaaTwoS2
import Derived.Test.YtejcpoidoekleaaTwoI2
namespace Go.Proofs.Ytejcpoidoekleaa
set_option maxRecDepth 100000
open Go.RowKit

theorem zeroT_partsBothFallen : zeroT.a = zeroD ∧ zeroT.b = zeroD := ⟨rfl, rfl⟩

end Go.Proofs.Ytejcpoidoekleaa
