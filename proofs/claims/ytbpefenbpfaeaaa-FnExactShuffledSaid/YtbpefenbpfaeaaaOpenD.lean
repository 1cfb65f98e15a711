/-
  What the frame of a law tells of a struct of one number that came in by value.
-/
import Derived.Test.YtbpefenbpfaeaaaBase
import Derived.Lib.SmallJoins
import Derived.ProofKit
namespace Go.Proofs.Ytbpefenbpfaeaaa
open Go.RowKit Go.ChangeShapes Go.WideShapes Go.ChangeAt

theorem array_one {α : Type} {cs : Array α} (h : cs.size = 1) : ∃ c0, cs = #[c0] := by
  obtain ⟨l⟩ := cs
  match l, h with
  | [c0], _ => exact ⟨c0, rfl⟩

theorem open_one {H : Type} {enc : TypeId × Value → H} {P : Program} {w : World} {base : Nat} {spare : Nat → Bool} {held : Bool} {r : Reach} {b0 : Nat} {t q : TypeId} {f0 : Field} {v : Value} {d : DataW H} {p : List MemPlace}
    (hs : P.underlying t = some (.struct #[f0])) (hone : Go.Deep.oneCellFields P #[f0] = true) (hC : P.cellsOf t = 1) (ht : f0.type = q) (hq : P.underlying q = some (.int .i64))
    (hv : Value.okWide P w r b0 t v) (h : DataW.Trod enc P w base spare held t v d p) : ∃ s : Int, v = .agg #[.int .i64 s] ∧ (Lit.int .i64 s).wf = true := by
  obtain ⟨cs, rfl, hsz⟩ := okWide_struct hs hv
  obtain ⟨c0, rfl⟩ := array_one (hsz.trans hC)
  obtain ⟨fuel, hf⟩ := h
  obtain ⟨y0, n, _, _, h0⟩ := trod_struct1 hs hf
  obtain ⟨o0, k0⟩ := Go.Deep.hone_of hone 0 f0 rfl
  have h1 : DataW.trod enc P w base spare held n f0.type [c0] = some y0 := by simpa [Value.cells, o0, k0] using h0
  rw [ht] at h1
  obtain ⟨a, e0, _, wa⟩ := DataW.trod_int hq h1
  simp at e0
  subst e0
  exact ⟨a, rfl, wa⟩

end Go.Proofs.Ytbpefenbpfaeaaa
