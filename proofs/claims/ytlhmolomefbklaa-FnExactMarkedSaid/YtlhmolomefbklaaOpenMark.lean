/-
  Marks and slices of them that came in, opened (by program, wip/gen/genmark.py).
-/
import Derived.Test.YtlhmolomefbklaaOpenR
import Derived.Test.YtlhmolomefbklaaMark
namespace Go.Proofs.Ytlhmolomefbklaa
set_option maxRecDepth 100000
open Go.RowKit Go.ChangeShapes Go.WideShapes Go.ChangeAt

theorem opens_mrk : Opens Try.prog 60 3 (fun ds => ∃ x : MarkM, ds = mrkC x) :=
  (opens_struct Try.underlying60 (opensF_cons rfl opens_i64 (opensF_cons rfl opens_i64 (opensF_cons rfl opens_i64 (opensF_nil _)))) (by kernel_rfl)).mono fun _ h => by
    obtain ⟨_, _, ⟨q0, rfl⟩, ⟨_, _, ⟨q1, rfl⟩, ⟨_, _, ⟨q2, rfl⟩, rfl, rfl⟩, rfl⟩, rfl⟩ := h
    exact ⟨⟨q0, q1, q2⟩, rfl⟩
theorem opens_mrks : Opens Try.prog 22 1 (fun ds => ∃ l : List MarkM, ds = [mrkD l]) :=
  opens_slice Try.underlying22 opens_mrk (by decide) mrkC_len (by kernel_rfl)

theorem open_marks {H : Type} {enc : TypeId × Value → H} {w : World} {base : Nat} {spare : Nat → Bool} {held : Bool} {r : Reach} {b0 : Nat} {v : Value} {x : DataW H} {p : List MemPlace}
    (hv : Value.okWide Try.prog w r b0 22 v) (h : DataW.Trod enc Try.prog w base spare held 22 v x p) :
    ∃ (A : Option Addr) (n c : Nat) (l : List MarkM), v = .slice A n c ∧ Rd w w.heap.size [mrkD l] [.slice A n c] := by
  obtain ⟨A, n, c, rfl⟩ := okWide_slice Try.underlying22 hv
  obtain ⟨fuel, hf⟩ := h
  obtain ⟨_, _, ⟨l, rfl⟩, hr⟩ := opens_mrks.2 H enc w base spare held fuel _ _ hf
  exact ⟨A, n, c, l, rfl, hr⟩

end Go.Proofs.Ytlhmolomefbklaa
