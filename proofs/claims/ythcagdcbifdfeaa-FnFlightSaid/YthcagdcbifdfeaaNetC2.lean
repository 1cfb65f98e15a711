/-
  Chapter 5: where a link lies among the cuts, in the model (by program, wip/gen/gennetc.py).
-/
import Derived.Test.YthcagdcbifdfeaaNetM
import Derived.RegionTactic
import Derived.BigQuiet
namespace Go.Proofs.Ythcagdcbifdfeaa
set_option maxRecDepth 100000
open Go.RowKit

theorem eqIx_is {c : List LinkM} {l : LinkM} {j : Nat} (hj : j < c.length) (h1 : ∀ i (hi : i < c.length), i < j → linkEq c[i] l = false) (h2 : linkEq c[j] l = true) : eqIx c l = j :=
  firstNot_eq _ c j (Nat.le_of_lt hj) (fun i hi hlt => by rw [h1 i hi hlt]; rfl) (fun _ => by rw [h2]; rfl)
theorem eqIx_none {c : List LinkM} {l : LinkM} (h1 : ∀ i (hi : i < c.length), linkEq c[i] l = false) : eqIx c l = c.length :=
  firstNot_eq _ c c.length (Nat.le_refl _) (fun i hi _ => by rw [h1 i hi]; rfl) (fun h => absurd h (Nat.lt_irrefl _))
theorem specAt_is {c : List LinkM} {l : LinkM} {j : Nat} (hj : j < c.length) (h1 : ∀ i (hi : i < c.length), i < j → linkEq c[i] l = false) (h2 : linkEq c[j] l = true) : specAt c l = (j : Int) := by
  unfold specAt
  rw [eqIx_is hj h1 h2, if_pos hj]
theorem specAt_none {c : List LinkM} {l : LinkM} (h1 : ∀ i (hi : i < c.length), linkEq c[i] l = false) : specAt c l = -1 := by
  unfold specAt
  rw [eqIx_none h1, if_neg (Nat.lt_irrefl _)]

end Go.Proofs.Ythcagdcbifdfeaa
