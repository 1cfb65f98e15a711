/-
  TwoOk: the law's walk, the model's and the program's brought together.
-/
import Derived.Test.YtejcpoidoekleaaLawTwoOk
import Derived.Test.YtejcpoidoekleaaTwoS1
import Derived.Test.YtejcpoidoekleaaTwoI1
namespace Go.Proofs.Ytejcpoidoekleaa
set_option maxRecDepth 100000
open Go.RowKit

theorem sTwoOk_at (A0 : Option Addr) (n0 c0 : Nat) (A1 : Option Addr) (n1 c1 : Nat) (A2 : Option Addr) (n2 c2 : Nat) (A3 : Option Addr) (n3 c3 : Nat) (t : TwoM) (w : World) (h : Rd w w.heap.size t.cells [.slice A0 n0 c0, .slice A1 n1 c1, .slice A2 n2 c2, .slice A3 n3 c3]) (hs : t.sz ≤ 1048576) :
    Calls Try.prog 26 #[.agg #[.slice A0 n0 c0, .slice A1 n1 c1, .slice A2 n2 c2, .slice A3 n3 c3]] w fun e w' => e = .returned (.bool (twoOk t)) ∧ Below w.heap.size w w' :=
  sTwoOk_any A0 n0 c0 A1 n1 c1 A2 n2 c2 A3 n3 c3 t _ w h (Nat.le_refl _) (by omega)
theorem iTwoOk_at (A0 : Option Addr) (n0 c0 : Nat) (A1 : Option Addr) (n1 c1 : Nat) (A2 : Option Addr) (n2 c2 : Nat) (A3 : Option Addr) (n3 c3 : Nat) (t : TwoM) (w : World) (h : Rd w w.heap.size t.cells [.slice A0 n0 c0, .slice A1 n1 c1, .slice A2 n2 c2, .slice A3 n3 c3]) (hs : t.sz ≤ 1048576) :
    Calls Try.prog 29 #[.agg #[.slice A0 n0 c0, .slice A1 n1 c1, .slice A2 n2 c2, .slice A3 n3 c3]] w fun e w' => e = .returned (.bool (twoOk t)) ∧ Below w.heap.size w w' :=
  iTwoOk_any A0 n0 c0 A1 n1 c1 A2 n2 c2 A3 n3 c3 t _ w h (Nat.le_refl _) (by omega)
end Go.Proofs.Ytejcpoidoekleaa
