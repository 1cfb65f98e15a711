/-
  OpWord: the law, the model and the program brought together.
-/
import Derived.Test.YtjgoaaabfhjijaaLawOpWord
import Derived.Test.YtjgoaaabfhjijaaEntS8
import Derived.Test.YtjgoaaabfhjijaaEntI3
import Derived.RegionTactic
namespace Go.Proofs.Ytjgoaaabfhjijaa
set_option maxRecDepth 100000
open Go.RowKit

theorem iWord_at (x : Int) (w : World) : Calls Try.prog 26 #[.int .i64 x] w fun e w' => e = .returned (.string (wordM x)) ∧ Below w.heap.size w w' := iWord_any x w

end Go.Proofs.Ytjgoaaabfhjijaa
