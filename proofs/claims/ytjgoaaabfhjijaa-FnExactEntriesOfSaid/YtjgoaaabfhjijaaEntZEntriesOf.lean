/-
  EntriesOf: the law, the model and the program brought together.
-/
import Derived.Test.YtjgoaaabfhjijaaLawEntriesOf
import Derived.Test.YtjgoaaabfhjijaaEntS5
import Derived.Test.YtjgoaaabfhjijaaEntI6
import Derived.RegionTactic
namespace Go.Proofs.Ytjgoaaabfhjijaa
set_option maxRecDepth 100000
open Go.RowKit

theorem zsEntriesOf_at (A0 : Option Addr) (n0 c0 : Nat) (d : List EntM) (x : Int) (w : World) (h : Rd w w.heap.size [entD d] [.slice A0 n0 c0]) (hs : entSz d ≤ 1048576) :
    Calls Try.prog 42 #[.slice A0 n0 c0, .int .i64 x] w fun e w' => ∃ (A : Option Addr) (n c : Nat), e = .returned (.slice A n c) ∧ Has w' w.heap.size [entD (ofM d x)] [.slice A n c] ∧ Below w.heap.size w w' :=
  sOf_any A0 n0 c0 d x w h (by omega)
theorem iEntriesOf_at (A0 : Option Addr) (n0 c0 : Nat) (d : List EntM) (x : Int) (w : World) (h : Rd w w.heap.size [entD d] [.slice A0 n0 c0]) (hs : entSz d ≤ 1048576) :
    Calls Try.prog 43 #[.slice A0 n0 c0, .int .i64 x] w fun e w' => ∃ (A : Option Addr) (n c : Nat), e = .returned (.slice A n c) ∧ Has w' w.heap.size [entD (ofM d x)] [.slice A n c] ∧ Below w.heap.size w w' :=
  iOf_any A0 n0 c0 d x w h (by omega)

end Go.Proofs.Ytjgoaaabfhjijaa
