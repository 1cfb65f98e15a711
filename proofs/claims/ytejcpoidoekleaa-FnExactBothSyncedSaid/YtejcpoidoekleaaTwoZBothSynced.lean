/-
  BothSynced: the law's walk, the model's and the program's brought together.
-/
import Derived.Test.YtejcpoidoekleaaLawBothSynced
import Derived.Test.YtejcpoidoekleaaTwoS1
import Derived.Test.YtejcpoidoekleaaTwoI1
namespace Go.Proofs.Ytejcpoidoekleaa
set_option maxRecDepth 100000
open Go.RowKit

theorem zeroT_partsBothSynced : zeroT.a = zeroD ∧ zeroT.b = zeroD := ⟨rfl, rfl⟩

end Go.Proofs.Ytejcpoidoekleaa
