/-
  SameRow, of the program and of its model: two slices of int64 have equal lengths and elements.
-/
import Derived.Test.YtepnghjmpbfmcaaKA
namespace Go.Proofs.Ytepnghjmpbfmcaa
set_option maxRecDepth 100000
open Go.RowKit

def sameI (xs ys : List Int) : Bool := decide (xs = ys)

theorem sameI_len {xs ys : List Int} (h : xs.length ≠ ys.length) : sameI xs ys = false := by
  simp only [sameI, decide_eq_false_iff_not]
  intro e; exact h (by rw [e])
theorem sameI_bad {xs ys : List Int} {k : Nat} (h : xs.getD k 0 ≠ ys.getD k 0) : sameI xs ys = false := by
  simp only [sameI, decide_eq_false_iff_not]
  intro e; exact h (by rw [e])

/-- The first k numbers agree. -/
def EqTo (xs ys : List Int) (k : Nat) : Prop := ∀ j, j < k → xs.getD j 0 = ys.getD j 0
theorem EqTo.zero (xs ys : List Int) : EqTo xs ys 0 := fun j hj => absurd hj (by omega)
theorem EqTo.succ {xs ys : List Int} {k : Nat} (h : EqTo xs ys k) (hk : xs.getD k 0 = ys.getD k 0) : EqTo xs ys (k + 1) := by
  intro j hj
  by_cases e : j = k
  · subst e; exact hk
  · exact h j (by omega)
theorem sameI_end {xs ys : List Int} (hl : xs.length = ys.length) (h : EqTo xs ys xs.length) : sameI xs ys = true := by
  simp only [sameI, decide_eq_true_eq]
  apply List.ext_getElem hl
  intro j h1 h2
  have := h j h1
  simpa [List.getD, List.getElem?_eq_getElem h1, List.getElem?_eq_getElem h2] using this

end Go.Proofs.Ytepnghjmpbfmcaa
