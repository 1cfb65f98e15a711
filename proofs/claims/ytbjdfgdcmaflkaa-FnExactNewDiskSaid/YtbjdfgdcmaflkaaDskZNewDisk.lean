/-
  NewDisk: the law's walk, the model's and the program's brought together.
-/
import Derived.Test.YtbjdfgdcmaflkaaLawNewDisk
import Derived.Test.YtbjdfgdcmaflkaaDskI3
import Derived.Test.YtbjdfgdcmaflkaaDskM3
namespace Go.Proofs.Ytbjdfgdcmaflkaa
open Go.RowKit

/-- A disk without sectors holds nothing. -/
theorem zero_cells : zeroD.cells = [keptD [], waitD []] := rfl

end Go.Proofs.Ytbjdfgdcmaflkaa
