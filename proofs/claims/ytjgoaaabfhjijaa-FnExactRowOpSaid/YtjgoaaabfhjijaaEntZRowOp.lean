/-
  RowOp: the law, the model and the program brought together.
-/
import Derived.Test.YtjgoaaabfhjijaaLawRowOp
import Derived.Test.YtjgoaaabfhjijaaEntS3
import Derived.Test.YtjgoaaabfhjijaaEntI2
import Derived.RegionTactic
namespace Go.Proofs.Ytjgoaaabfhjijaa
set_option maxRecDepth 100000
open Go.RowKit

theorem zsRowOp_at (A : Option Addr) (n c : Nat) (d0 : List Int) (w : World) (h : Rd w w.heap.size (rowCells d0) [.slice A n c]) (_hs : d0.length ≤ 1048576) :
    Calls Try.prog 21 #[.slice A n c] w fun e w' => e = .returned (.tuple #[.agg #[.int .i64 (rowOpM d0).1.kind, .int .i64 (rowOpM d0).1.a, .int .i64 (rowOpM d0).1.b, .int .i64 (rowOpM d0).1.c, .int .i64 (rowOpM d0).1.d], .bool (rowOpM d0).2]) ∧ Below w.heap.size w w' := by
  obtain ⟨_, _, _, e, hi, hnc, hcm⟩ := h.irow
  injection e with e1 e2 e3
  subst e1 e2 e3
  exact sRowOp_any A n c w.heap.size d0 w hi (Nat.le_refl _) (Nat.le_trans hnc hcm)
theorem iRowOp_at (A : Option Addr) (n c : Nat) (d0 : List Int) (w : World) (h : Rd w w.heap.size (rowCells d0) [.slice A n c]) (_hs : d0.length ≤ 1048576) :
    Calls Try.prog 23 #[.slice A n c] w fun e w' => e = .returned (.tuple #[.agg #[.int .i64 (rowOpM d0).1.kind, .int .i64 (rowOpM d0).1.a, .int .i64 (rowOpM d0).1.b, .int .i64 (rowOpM d0).1.c, .int .i64 (rowOpM d0).1.d], .bool (rowOpM d0).2]) ∧ Below w.heap.size w w' := by
  obtain ⟨_, _, _, e, hi, hnc, hcm⟩ := h.irow
  injection e with e1 e2 e3
  subst e1 e2 e3
  exact iRowOp_any A n c w.heap.size d0 w hi (Nat.le_refl _) (Nat.le_trans hnc hcm)

end Go.Proofs.Ytjgoaaabfhjijaa
