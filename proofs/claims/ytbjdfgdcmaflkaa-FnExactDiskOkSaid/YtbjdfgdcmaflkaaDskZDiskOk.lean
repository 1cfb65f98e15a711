/-
  DiskOk: the law's walk, the model's and the program's brought together.
-/
import Derived.Test.YtbjdfgdcmaflkaaLawDiskOk
import Derived.Test.YtbjdfgdcmaflkaaDskI1
namespace Go.Proofs.Ytbjdfgdcmaflkaa
open Go.RowKit

theorem sDiskOk_at (A : Option Addr) (n c : Nat) (A' : Option Addr) (n' c' : Nat) (d : DiskM) (w : World) (h : Rd w w.heap.size d.cells [.slice A n c, .slice A' n' c']) (hs : d.sz ≤ 1048576) :
    Calls Try.prog 15 #[.agg #[.slice A n c, .slice A' n' c']] w fun e w' => e = .returned (.bool (diskOk d)) ∧ Below w.heap.size w w' :=
  sDiskOk_any _ _ d _ w h (Nat.le_refl _) (by omega)
theorem iDiskOk_at (A : Option Addr) (n c : Nat) (A' : Option Addr) (n' c' : Nat) (d : DiskM) (w : World) (h : Rd w w.heap.size d.cells [.slice A n c, .slice A' n' c']) (hs : d.sz ≤ 1048576) :
    Calls Try.prog 26 #[.agg #[.slice A n c, .slice A' n' c']] w fun e w' => e = .returned (.bool (diskOk d)) ∧ Below w.heap.size w w' :=
  iDiskOk_any _ _ d _ w h (Nat.le_refl _) (by omega)

end Go.Proofs.Ytbjdfgdcmaflkaa
