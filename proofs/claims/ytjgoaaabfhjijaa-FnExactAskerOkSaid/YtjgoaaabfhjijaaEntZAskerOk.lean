/-
  AskerOk: the law, the model and the program brought together.
-/
import Derived.Test.YtjgoaaabfhjijaaLawAskerOk
import Derived.Test.YtjgoaaabfhjijaaEntS2
import Derived.Test.YtjgoaaabfhjijaaEntI1
import Derived.RegionTactic
namespace Go.Proofs.Ytjgoaaabfhjijaa
set_option maxRecDepth 100000
open Go.RowKit

theorem iAsker_at (x : Int) (w : World) : Calls Try.prog 28 #[.int .i64 x] w fun e w' => e = .returned (.bool (askB x)) ∧ Below w.heap.size w w' := by
  refine (i_AskerOk_any x w).mono ?_
  rintro e w' ⟨rfl, rfl⟩
  exact ⟨rfl, Below.refl _ _⟩

end Go.Proofs.Ytjgoaaabfhjijaa
