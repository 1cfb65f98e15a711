/-
  EntriesOk: the law, the model and the program brought together.
-/
import Derived.Test.YtjgoaaabfhjijaaLawEntriesOk
import Derived.Test.YtjgoaaabfhjijaaEntS4
import Derived.Test.YtjgoaaabfhjijaaEntI5
import Derived.RegionTactic
namespace Go.Proofs.Ytjgoaaabfhjijaa
set_option maxRecDepth 100000
open Go.RowKit

theorem zsEntriesOk_at (A0 : Option Addr) (n0 c0 : Nat) (d : List EntM) (w : World) (h : Rd w w.heap.size [entD d] [.slice A0 n0 c0]) (hs : entSz d ≤ 1048576) :
    Calls Try.prog 38 #[.slice A0 n0 c0] w fun e w' => e = .returned (.bool (entsB d)) ∧ Below w.heap.size w w' :=
  sEntries_any A0 n0 c0 w.heap.size d w h (Nat.le_refl _) (by omega)
theorem iEntriesOk_at (A0 : Option Addr) (n0 c0 : Nat) (d : List EntM) (w : World) (h : Rd w w.heap.size [entD d] [.slice A0 n0 c0]) (hs : entSz d ≤ 1048576) :
    Calls Try.prog 40 #[.slice A0 n0 c0] w fun e w' => e = .returned (.bool (entsB d)) ∧ Below w.heap.size w w' :=
  iEntries_any A0 n0 c0 w.heap.size d w h (Nat.le_refl _) (by omega)

end Go.Proofs.Ytjgoaaabfhjijaa
