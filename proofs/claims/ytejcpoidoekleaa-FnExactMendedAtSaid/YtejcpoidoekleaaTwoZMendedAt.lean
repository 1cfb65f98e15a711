/-
  MendedAt: the law's walk, the model's and the program's brought together.
-/
import Derived.Test.YtejcpoidoekleaaLawMendedAt
import Derived.Test.YtejcpoidoekleaaTwoS3
import Derived.Test.YtejcpoidoekleaaTwoI3
namespace Go.Proofs.Ytejcpoidoekleaa
set_option maxRecDepth 100000
open Go.RowKit

theorem zeroT_partsMendedAt : zeroT.a = zeroD ∧ zeroT.b = zeroD := ⟨rfl, rfl⟩

end Go.Proofs.Ytejcpoidoekleaa
