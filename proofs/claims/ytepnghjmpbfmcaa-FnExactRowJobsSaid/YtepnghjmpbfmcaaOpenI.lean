/-
  A row of numbers that came in, opened.
-/
import Derived.Test.YtepnghjmpbfmcaaOpenR
namespace Go.Proofs.Ytepnghjmpbfmcaa
set_option maxRecDepth 100000
open Go.RowKit Go.ChangeShapes Go.WideShapes Go.ChangeAt

theorem open_irow {H : Type} {enc : TypeId × Value → H} {w : World} {base : Nat} {spare : Nat → Bool} {held : Bool} {r : Reach} {b0 : Nat} {v : Value} {x : DataW H} {p : List MemPlace}
    (hv : Value.okWide Try.prog w r b0 22 v) (h : DataW.Trod enc Try.prog w base spare held 22 v x p) :
    ∃ (A : Option Addr) (n c : Nat) (xs : List Int), v = .slice A n c ∧ Rd w w.heap.size [rowD xs] [.slice A n c] := by
  obtain ⟨A, n, c, rfl⟩ := okWide_slice Try.underlying22 hv
  obtain ⟨fuel, hf⟩ := h
  obtain ⟨_, _, ⟨xs, rfl⟩, hr⟩ := opens_row.2 H enc w base spare held fuel _ _ hf
  exact ⟨A, n, c, xs, rfl, hr⟩

end Go.Proofs.Ytepnghjmpbfmcaa
