/-
  Synced: the law's walk, the model's and the program's brought together.
-/
import Derived.Test.YtbjdfgdcmaflkaaLawSynced
import Derived.Test.YtbjdfgdcmaflkaaDskI5
namespace Go.Proofs.Ytbjdfgdcmaflkaa
open Go.RowKit

/-- A disk without sectors holds nothing. -/
theorem zero_cells : zeroD.cells = [keptD [], waitD []] := rfl

end Go.Proofs.Ytbjdfgdcmaflkaa
