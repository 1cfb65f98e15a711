/-
  Chapter 7: askers, entries, rows of operations, of the model (by program, wip/gen/genent2.py).
-/
import Derived.Test.YtgjlfambaiakbaaEntS1
import Derived.Test.YtgjlfambaiakbaaEntL
import Derived.RegionTactic
import Derived.BigQuiet
namespace Go.Proofs.Ytgjlfambaiakbaa
set_option maxRecDepth 100000
open Go.RowKit

theorem sAsker_any (x : Int) (w : World) : Calls Try.prog 37 #[.int .i64 x] w fun e w' => e = .returned (.bool (askB x)) ∧ Below w.heap.size w w' := by
  by_cases h : 2 ≤ x ∧ x ≤ 5
  · refine (AskerOk_yes x w h).mono ?_
    rintro e w' ⟨rfl, rfl⟩
    exact ⟨ret_bool (by simp [askB, inB]; omega), Below.refl _ _⟩
  · refine (AskerOk_no x w h).mono ?_
    rintro e w' ⟨rfl, rfl⟩
    exact ⟨ret_bool (by simp [askB, inB]; omega), Below.refl _ _⟩

end Go.Proofs.Ytgjlfambaiakbaa
