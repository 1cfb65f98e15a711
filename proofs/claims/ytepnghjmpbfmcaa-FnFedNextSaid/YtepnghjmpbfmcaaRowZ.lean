/-
  The functions of chapter 1, of the model and of the program, in the form that later walks use: what reads as plain data comes in, what is owned comes out.
-/
import Derived.Test.YtepnghjmpbfmcaaKB
import Derived.Test.YtepnghjmpbfmcaaKA
import Derived.Test.YtepnghjmpbfmcaaSame
namespace Go.Proofs.Ytepnghjmpbfmcaa
set_option maxRecDepth 100000
open Go.RowKit

theorem rdI {w : World} {B : Nat} {xs : List Int} {A : Option Addr} {n c : Nat} (h : Rd w B (rowCells xs) [.slice A n c]) : IRow w B A n xs ∧ n ≤ c ∧ c ≤ maxLen := by
  obtain ⟨_, _, _, e, hi, h1, h2⟩ := h.irow
  injection e with e1 e2 e3
  subst e1 e2 e3
  exact ⟨hi, h1, h2⟩
theorem rdI_len {w : World} {B : Nat} {xs : List Int} {A : Option Addr} {n c : Nat} (h : Rd w B (rowCells xs) [.slice A n c]) : xs.length = n := (rdI h).1.1

section
variable (A : Option Addr) (n c : Nat) (xs : List Int) (w : World)
variable (A' : Option Addr) (n' c' : Nat) (ys : List Int) (B B' : Nat)
end

end Go.Proofs.Ytepnghjmpbfmcaa
