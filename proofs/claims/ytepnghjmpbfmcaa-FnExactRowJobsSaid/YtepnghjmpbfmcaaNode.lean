/-
  Nodes (chapter 5).
-/
import Derived.Test.YtepnghjmpbfmcaaKA
import Derived.RegionTactic
import Derived.BigQuiet
namespace Go.Proofs.Ytepnghjmpbfmcaa
set_option maxRecDepth 100000
open Go.RowKit

def nodeB (x : Int) : Bool := decide (0 ≤ x) && decide (x ≤ 5)
theorem nodeB_iff (x : Int) : nodeB x = true ↔ 0 ≤ x ∧ x ≤ 5 := by simp [nodeB]

set_option maxHeartbeats 1600000 in
theorem iNode_any (x : Int) (w : World) :
    Calls Try.prog 62 #[.int .i64 x] w fun e w' => e = .returned (.bool (nodeB x)) ∧ w = w' := by
  go_enter Try.func62, Try.ntmps62
  go_wp2
  all_goals
    go_ret
    refine ⟨ret_bool ?_, rfl⟩
    first | rfl | (simp_all [nodeB]; done) | (rw [Bool.eq_iff_iff]; simp_all [nodeB] <;> omega) | (simp_all [nodeB] <;> omega)

end Go.Proofs.Ytepnghjmpbfmcaa
