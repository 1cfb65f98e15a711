/-
  Chapter 7: operations and their rows, of the program (by program, wip/gen/genenti2.py).
-/
import Derived.Test.YthjjdelpdiipdaaEntI1
import Derived.Test.YthjjdelpdiipdaaEntL
import Derived.RegionTactic
import Derived.BigQuiet
namespace Go.Proofs.Ythjjdelpdiipdaa
set_option maxRecDepth 100000
open Go.RowKit

theorem has_nil_rowE (w : World) (base : Nat) : Has w base (rowCells []) [.slice none 0 0] := ⟨[], ow_nil_row w, List.nodup_nil, fun p hp => by cases hp⟩
end Go.Proofs.Ythjjdelpdiipdaa
