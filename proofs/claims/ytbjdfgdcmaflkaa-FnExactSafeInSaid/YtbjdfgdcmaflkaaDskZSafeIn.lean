/-
  SafeIn: the law's walk, the model's and the program's brought together.
-/
import Derived.Test.YtbjdfgdcmaflkaaLawSafeIn
import Derived.Test.YtbjdfgdcmaflkaaDskI3
namespace Go.Proofs.Ytbjdfgdcmaflkaa
open Go.RowKit

theorem sSafeIn_at (A : Option Addr) (n c : Nat) (A' : Option Addr) (n' c' : Nat) (d : DiskM) (w : World) (h : Rd w w.heap.size d.cells [.slice A n c, .slice A' n' c']) (hs : d.sz ≤ 1048576) :
    Calls Try.prog 42 #[.agg #[.slice A n c, .slice A' n' c']] w fun e w' => e = .returned (.bool (safeIn d)) ∧ Below w.heap.size w w' :=
  sSafeIn_any _ _ d _ w h (Nat.le_refl _) (by omega)
theorem iSafeIn_at (A : Option Addr) (n c : Nat) (A' : Option Addr) (n' c' : Nat) (d : DiskM) (w : World) (h : Rd w w.heap.size d.cells [.slice A n c, .slice A' n' c']) (hs : d.sz ≤ 1048576) :
    Calls Try.prog 18 #[.agg #[.slice A n c, .slice A' n' c']] w fun e w' => e = .returned (.bool (safeIn d)) ∧ Below w.heap.size w w' :=
  iSafeIn_any _ _ d _ w h (Nat.le_refl _) (by omega)

end Go.Proofs.Ytbjdfgdcmaflkaa
