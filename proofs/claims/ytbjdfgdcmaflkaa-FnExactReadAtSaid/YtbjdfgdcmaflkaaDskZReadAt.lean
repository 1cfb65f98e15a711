/-
  ReadAt: the law's walk, the model's and the program's brought together.
-/
import Derived.Test.YtbjdfgdcmaflkaaLawReadAt
import Derived.Test.YtbjdfgdcmaflkaaDskI3
import Derived.Test.YtbjdfgdcmaflkaaDskM3
namespace Go.Proofs.Ytbjdfgdcmaflkaa
open Go.RowKit

theorem sReadAt_at (A : Option Addr) (n c : Nat) (A' : Option Addr) (n' c' : Nat) (d : DiskM) (i : Int) (w : World) (h : Rd w w.heap.size d.cells [.slice A n c, .slice A' n' c']) (hs : d.sz ≤ 1048576) :
    Calls Try.prog 32 #[.agg #[.slice A n c, .slice A' n' c'], .int .i64 i] w fun e w' => ∃ R m k, e = .returned (.tuple #[.slice R m k, .bool (readAt d i).2]) ∧ Has w' w.heap.size (rowCells (readAt d i).1) [.slice R m k] ∧ Below w.heap.size w w' :=
  sReadAt_any _ _ d i w h (by omega)
theorem iReadAt_at (A : Option Addr) (n c : Nat) (A' : Option Addr) (n' c' : Nat) (d : DiskM) (i : Int) (w : World) (h : Rd w w.heap.size d.cells [.slice A n c, .slice A' n' c']) (hs : d.sz ≤ 1048576) :
    Calls Try.prog 19 #[.agg #[.slice A n c, .slice A' n' c'], .int .i64 i] w fun e w' => ∃ R m k, e = .returned (.tuple #[.slice R m k, .bool (readAt d i).2]) ∧ Has w' w.heap.size (rowCells (readAt d i).1) [.slice R m k] ∧ Below w.heap.size w w' :=
  iReadAt_any _ _ d i w h (by omega)

end Go.Proofs.Ytbjdfgdcmaflkaa
