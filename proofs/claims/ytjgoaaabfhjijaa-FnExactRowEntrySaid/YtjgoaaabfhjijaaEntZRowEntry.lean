/-
  RowEntry: the law, the model and the program brought together.
-/
import Derived.Test.YtjgoaaabfhjijaaLawRowEntry
import Derived.Test.YtjgoaaabfhjijaaEntS7
import Derived.Test.YtjgoaaabfhjijaaEntI4
import Derived.RegionTactic
namespace Go.Proofs.Ytjgoaaabfhjijaa
set_option maxRecDepth 100000
open Go.RowKit

theorem zsRowEnt_at (A : Option Addr) (n c : Nat) (d0 : List Int) (w : World) (h : Rd w w.heap.size (rowCells d0) [.slice A n c]) (_hs : d0.length ≤ 1048576) :
    Calls Try.prog 34 #[.slice A n c] w fun e w' => e = .returned (.tuple #[.agg #[.int .i64 (rowEntM d0).1.idx, .int .i64 (rowEntM d0).1.tm, .int .i64 (rowEntM d0).1.cl, .int .i64 (rowEntM d0).1.sq, .int .i64 (rowEntM d0).1.kd, .int .i64 (rowEntM d0).1.oa, .int .i64 (rowEntM d0).1.ob, .int .i64 (rowEntM d0).1.oc, .int .i64 (rowEntM d0).1.od], .bool (rowEntM d0).2]) ∧ Below w.heap.size w w' := by
  obtain ⟨_, _, _, e, hi, hnc, hcm⟩ := h.irow
  injection e with e1 e2 e3
  subst e1 e2 e3
  exact sRowEnt_any A n c w.heap.size d0 w hi (Nat.le_refl _) (Nat.le_trans hnc hcm) hnc
theorem iRowEnt_at (A : Option Addr) (n c : Nat) (d0 : List Int) (w : World) (h : Rd w w.heap.size (rowCells d0) [.slice A n c]) (_hs : d0.length ≤ 1048576) :
    Calls Try.prog 35 #[.slice A n c] w fun e w' => e = .returned (.tuple #[.agg #[.int .i64 (rowEntM d0).1.idx, .int .i64 (rowEntM d0).1.tm, .int .i64 (rowEntM d0).1.cl, .int .i64 (rowEntM d0).1.sq, .int .i64 (rowEntM d0).1.kd, .int .i64 (rowEntM d0).1.oa, .int .i64 (rowEntM d0).1.ob, .int .i64 (rowEntM d0).1.oc, .int .i64 (rowEntM d0).1.od], .bool (rowEntM d0).2]) ∧ Below w.heap.size w w' := by
  obtain ⟨_, _, _, e, hi, hnc, hcm⟩ := h.irow
  injection e with e1 e2 e3
  subst e1 e2 e3
  exact iRowEnt_any A n c w.heap.size d0 w hi (Nat.le_refl _) (Nat.le_trans hnc hcm) hnc

end Go.Proofs.Ytjgoaaabfhjijaa
