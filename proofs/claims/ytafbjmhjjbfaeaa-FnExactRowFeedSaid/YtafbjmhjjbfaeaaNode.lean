/-
  Nodes (chapter 5).
-/
import Derived.Test.YtafbjmhjjbfaeaaKA
import Derived.RegionTactic
import Derived.BigQuiet
namespace Go.Proofs.Ytafbjmhjjbfaeaa
set_option maxRecDepth 100000
open Go.RowKit

def nodeB (x : Int) : Bool := decide (0 ≤ x) && decide (x ≤ 5)
theorem nodeB_iff (x : Int) : nodeB x = true ↔ 0 ≤ x ∧ x ≤ 5 := by simp [nodeB]

end Go.Proofs.Ytafbjmhjjbfaeaa
